/- The walks of package label: drafted, label, numbers, and what each of its closures tells. -/
import Derived.Test.YtcngonedcnddlaaLabelBox
import Derived.WalkMore
import Derived.IntWalk
import Derived.RegionTactic
import Derived.Deep.RegionHeld3
import Derived.Deep.Cut
import Derived.Laws.EntriesVeiled
namespace Go.Proofs.Ytcngonedcnddlaa
open Go.RowKit ShapeM LabelM
set_option linter.unusedVariables false

theorem kept0 (d P : Nat) (w : World) (h : w.cell? ⟨d, 0, none⟩ = some (.pointer (some ⟨P, 0, none⟩))) : Calls Try.prog 40 #[.pointer (some ⟨d, 0, none⟩)] w fun e w' => e = .returned (.pointer (some ⟨P, 10, none⟩)) ∧ w = w' := by
  go_enter Try.func40, Try.ntmps40
  go_wp2
  go_ret
  exact ⟨rfl, rfl⟩
theorem kept1 (d P : Nat) (w : World) (h : w.cell? ⟨d, 0, none⟩ = some (.pointer (some ⟨P, 0, none⟩))) : Calls Try.prog 41 #[.pointer (some ⟨d, 0, none⟩)] w fun e w' => e = .returned (.pointer (some ⟨P, 11, none⟩)) ∧ w = w' := by
  go_enter Try.func41, Try.ntmps41
  go_wp2
  go_ret
  exact ⟨rfl, rfl⟩
theorem kept2 (d P : Nat) (w : World) (h : w.cell? ⟨d, 0, none⟩ = some (.pointer (some ⟨P, 0, none⟩))) : Calls Try.prog 42 #[.pointer (some ⟨d, 0, none⟩)] w fun e w' => e = .returned (.pointer (some ⟨P, 12, none⟩)) ∧ w = w' := by
  go_enter Try.func42, Try.ntmps42
  go_wp2
  go_ret
  exact ⟨rfl, rfl⟩
theorem kept3 (d P : Nat) (w : World) (h : w.cell? ⟨d, 0, none⟩ = some (.pointer (some ⟨P, 0, none⟩))) : Calls Try.prog 43 #[.pointer (some ⟨d, 0, none⟩)] w fun e w' => e = .returned (.pointer (some ⟨P, 2, none⟩)) ∧ w = w' := by
  go_enter Try.func43, Try.ntmps43
  go_wp2
  go_ret
  exact ⟨rfl, rfl⟩
theorem kept4 (d P : Nat) (w : World) (h : w.cell? ⟨d, 0, none⟩ = some (.pointer (some ⟨P, 0, none⟩))) : Calls Try.prog 44 #[.pointer (some ⟨d, 0, none⟩)] w fun e w' => e = .returned (.pointer (some ⟨P, 3, none⟩)) ∧ w = w' := by
  go_enter Try.func44, Try.ntmps44
  go_wp2
  go_ret
  exact ⟨rfl, rfl⟩
theorem kept5 (d P : Nat) (w : World) (h : w.cell? ⟨d, 0, none⟩ = some (.pointer (some ⟨P, 0, none⟩))) : Calls Try.prog 45 #[.pointer (some ⟨d, 0, none⟩)] w fun e w' => e = .returned (.pointer (some ⟨P, 4, none⟩)) ∧ w = w' := by
  go_enter Try.func45, Try.ntmps45
  go_wp2
  go_ret
  exact ⟨rfl, rfl⟩
theorem kept6 (d P : Nat) (w : World) (h : w.cell? ⟨d, 0, none⟩ = some (.pointer (some ⟨P, 0, none⟩))) : Calls Try.prog 46 #[.pointer (some ⟨d, 0, none⟩)] w fun e w' => e = .returned (.pointer (some ⟨P, 5, none⟩)) ∧ w = w' := by
  go_enter Try.func46, Try.ntmps46
  go_wp2
  go_ret
  exact ⟨rfl, rfl⟩
theorem kept7 (d P : Nat) (w : World) (h : w.cell? ⟨d, 0, none⟩ = some (.pointer (some ⟨P, 0, none⟩))) : Calls Try.prog 47 #[.pointer (some ⟨d, 0, none⟩)] w fun e w' => e = .returned (.pointer (some ⟨P, 6, none⟩)) ∧ w = w' := by
  go_enter Try.func47, Try.ntmps47
  go_wp2
  go_ret
  exact ⟨rfl, rfl⟩
theorem kept8 (d P : Nat) (w : World) (h : w.cell? ⟨d, 0, none⟩ = some (.pointer (some ⟨P, 0, none⟩))) : Calls Try.prog 48 #[.pointer (some ⟨d, 0, none⟩)] w fun e w' => e = .returned (.pointer (some ⟨P, 13, none⟩)) ∧ w = w' := by
  go_enter Try.func48, Try.ntmps48
  go_wp2
  go_ret
  exact ⟨rfl, rfl⟩
theorem kept9 (d P : Nat) (w : World) (h : w.cell? ⟨d, 0, none⟩ = some (.pointer (some ⟨P, 0, none⟩))) : Calls Try.prog 49 #[.pointer (some ⟨d, 0, none⟩)] w fun e w' => e = .returned (.pointer (some ⟨P, 8, none⟩)) ∧ w = w' := by
  go_enter Try.func49, Try.ntmps49
  go_wp2
  go_ret
  exact ⟨rfl, rfl⟩
theorem kept10 (d P : Nat) (w : World) (h : w.cell? ⟨d, 0, none⟩ = some (.pointer (some ⟨P, 0, none⟩))) : Calls Try.prog 50 #[.pointer (some ⟨d, 0, none⟩)] w fun e w' => e = .returned (.pointer (some ⟨P, 14, none⟩)) ∧ w = w' := by
  go_enter Try.func50, Try.ntmps50
  go_wp2
  go_ret
  exact ⟨rfl, rfl⟩

/-- The eleven numbers' places, sizes and closures, in cells. -/
def numCells (d : Nat) : List Value := [.int .i64 0, .int .i64 1, .func (.func 40) #[] #[.pointer (some ⟨d, 0, none⟩)], .int .i64 1, .int .i64 4, .func (.func 41) #[] #[.pointer (some ⟨d, 0, none⟩)], .int .i64 5, .int .i64 4, .func (.func 42) #[] #[.pointer (some ⟨d, 0, none⟩)], .int .i64 9, .int .i64 1, .func (.func 43) #[] #[.pointer (some ⟨d, 0, none⟩)], .int .i64 10, .int .i64 1, .func (.func 44) #[] #[.pointer (some ⟨d, 0, none⟩)], .int .i64 11, .int .i64 1, .func (.func 45) #[] #[.pointer (some ⟨d, 0, none⟩)], .int .i64 12, .int .i64 1, .func (.func 46) #[] #[.pointer (some ⟨d, 0, none⟩)], .int .i64 13, .int .i64 1, .func (.func 47) #[] #[.pointer (some ⟨d, 0, none⟩)], .int .i64 14, .int .i64 1, .func (.func 48) #[] #[.pointer (some ⟨d, 0, none⟩)], .int .i64 15, .int .i64 1, .func (.func 49) #[] #[.pointer (some ⟨d, 0, none⟩)], .int .i64 16, .int .i64 1, .func (.func 50) #[] #[.pointer (some ⟨d, 0, none⟩)]]
set_option maxRecDepth 100000 in
set_option maxHeartbeats 4000000 in
theorem numbers_calls (P : Nat) (w : World) : Calls Try.prog 29 #[.pointer (some ⟨P, 0, none⟩)] w fun e w' => ∃ g d, w.heap.size ≤ g ∧ w.heap.size ≤ d ∧ e = .returned (.slice (some ⟨g, 0, none⟩) 11 11) ∧ CellsAt w' g (numCells d) ∧ CellsAt w' d [.pointer (some ⟨P, 0, none⟩)] ∧ Below w.heap.size w w' := by
  have B := CellsAt.new w [.pointer (some ⟨P, 0, none⟩)] 83
  have hb : Below w.heap.size w (w.alloc (.cells #[.pointer (some ⟨P, 0, none⟩)] 83 (0, 0))) := (Below.refl _ _).alloc (Nat.le_refl _) _
  have hmf : ∀ (fn : Fn) (first cap : Array Value) (w : World), (Instr.makeFunc fn first cap).run Try.prog w = .ok (.func fn first cap) w := fun _ _ _ _ => rfl
  go_enter Try.func29, Try.ntmps29
  go_wp2
  go_ret
  have hg := CellsAt.new (w.alloc (.cells #[.pointer (some ⟨P, 0, none⟩)] 83)) (numCells w.heap.size) 72
  rw [World.size_alloc] at hg
  exact ⟨_, _, by simp, Nat.le_refl _, rfl, hg, B.alloc _, hb.alloc hb.size _⟩

theorem who_cases (lst : Int) : ((lst == -1) = true ∧ Hid (who lst = 255)) ∨ ((lst == -1) = false ∧ Hid (who lst = lst)) := by
  unfold who
  by_cases h : lst = -1
  · exact .inl ⟨by simpa using h, by refine Lib.hid ?_; rw [if_pos h]⟩
  · exact .inr ⟨by simpa using h, by refine Lib.hid ?_; rw [if_neg h]⟩

theorem draft_size : (Try.prog.info? 67).map (fun i => (i.zero, i.size)) = some (some (.agg #[.int .u32 0, .int .u32 0, .int .i64 0, .int .i64 0, .int .i64 0, .int .i64 0, .int .i64 0, .int .i64 0, .int .i64 0, .bool false, .int .i64 0, .int .i64 0, .int .i64 0, .int .i64 0, .int .i64 0]), 15) := by kernel_rfl
set_option maxRecDepth 100000 in
set_option maxHeartbeats 4000000 in
theorem drafted_calls (id ev m ch ro lo me lst dn : Int) (op : Bool) (r q : Int) (hr : Hid (r = who lst)) (hq : Hid (q = opn op)) (h0 : 0 ≤ id) (h1 : id ≤ 4294967295) (h2 : 0 ≤ ev) (h3 : ev ≤ 4294967295) (w : World) : Calls Try.prog 32 #[.agg #[.int .u32 id, .int .u32 ev, .int .i64 m, .int .i64 ch, .int .i64 ro, .int .i64 lo, .int .i64 me, .int .i64 lst, .int .i64 dn, .bool op]] w fun e w' => e = .returned (.agg #[.int .u32 id, .int .u32 ev, .int .i64 m, .int .i64 ch, .int .i64 ro, .int .i64 lo, .int .i64 me, .int .i64 lst, .int .i64 dn, .bool op, .int .i64 76, .int .i64 id, .int .i64 ev, .int .i64 r, .int .i64 q]) ∧ Below w.heap.size w w' := by
  have B := BlkAt.new w #[.int .u32 id, .int .u32 ev, .int .i64 m, .int .i64 ch, .int .i64 ro, .int .i64 lo, .int .i64 me, .int .i64 lst, .int .i64 dn, .bool op] 43
  have hb : Below w.heap.size w (w.alloc (.cells #[.int .u32 id, .int .u32 ev, .int .i64 m, .int .i64 ch, .int .i64 ro, .int .i64 lo, .int .i64 me, .int .i64 lst, .int .i64 dn, .bool op] 43 (0, 0))) := (Below.refl _ _).alloc (Nat.le_refl _) _
  have hi10 := (zero_of_info label_size).2
  have hi15 := (zero_of_info draft_size).2
  go_enter Try.func32, Try.ntmps32
  go_upto_region 1 with fail
  have Z := BlkAt.new (w.alloc (.cells #[.int .u32 id, .int .u32 ev, .int .i64 m, .int .i64 ch, .int .i64 ro, .int .i64 lo, .int .i64 me, .int .i64 lst, .int .i64 dn, .bool op] 43)) #[.int .u32 0, .int .u32 0, .int .i64 0, .int .i64 0, .int .i64 0, .int .i64 0, .int .i64 0, .int .i64 0, .int .i64 0, .bool false, .int .i64 0, .int .i64 0, .int .i64 0, .int .i64 0, .int .i64 0] 67
  replace B := B.alloc (.cells #[.int .u32 0, .int .u32 0, .int .i64 0, .int .i64 0, .int .i64 0, .int .i64 0, .int .i64 0, .int .i64 0, .int .i64 0, .bool false, .int .i64 0, .int .i64 0, .int .i64 0, .int .i64 0, .int .i64 0] 67)
  replace hb := hb.alloc hb.size (.cells #[.int .u32 0, .int .u32 0, .int .i64 0, .int .i64 0, .int .i64 0, .int .i64 0, .int .i64 0, .int .i64 0, .int .i64 0, .bool false, .int .i64 0, .int .i64 0, .int .i64 0, .int .i64 0, .int .i64 0] 67)
  have hs : ((w.alloc (.cells #[.int .u32 id, .int .u32 ev, .int .i64 m, .int .i64 ch, .int .i64 ro, .int .i64 lo, .int .i64 me, .int .i64 lst, .int .i64 dn, .bool op] 43)).alloc (.cells #[.int .u32 0, .int .u32 0, .int .i64 0, .int .i64 0, .int .i64 0, .int .i64 0, .int .i64 0, .int .i64 0, .int .i64 0, .bool false, .int .i64 0, .int .i64 0, .int .i64 0, .int .i64 0, .int .i64 0] 67)).heap.size = w.heap.size + 1 + 1 := by simp only [World.size_alloc]
  simp only [World.size_alloc] at Z
  generalize World.alloc _ _ = v0 at *
  have b0 := B.cell 0
  have b1 := B.cell 1
  have b7 := B.cell 7
  have b9 := B.cell 9
  go_upto_region 2 with (refine wpList_load_row rfl 43 _ rfl w.heap.size rfl _ _ _ _ B Try.underlying43 rfl hi10 ?_)
  have G := BlkAt.new v0 #[.int .u32 id, .int .u32 ev, .int .i64 m, .int .i64 ch, .int .i64 ro, .int .i64 lo, .int .i64 me, .int .i64 lst, .int .i64 dn, .bool op, .int .i64 76, .int .i64 id, .int .i64 ev, .int .i64 lst, .int .i64 0] 67
  rw [hs] at G
  clear b0 b1 b7 b9
  replace B := B.alloc (.cells #[.int .u32 id, .int .u32 ev, .int .i64 m, .int .i64 ch, .int .i64 ro, .int .i64 lo, .int .i64 me, .int .i64 lst, .int .i64 dn, .bool op, .int .i64 76, .int .i64 id, .int .i64 ev, .int .i64 lst, .int .i64 0] 67)
  replace Z := Z.alloc (.cells #[.int .u32 id, .int .u32 ev, .int .i64 m, .int .i64 ch, .int .i64 ro, .int .i64 lo, .int .i64 me, .int .i64 lst, .int .i64 dn, .bool op, .int .i64 76, .int .i64 id, .int .i64 ev, .int .i64 lst, .int .i64 0] 67)
  replace hb := hb.alloc hb.size (.cells #[.int .u32 id, .int .u32 ev, .int .i64 m, .int .i64 ch, .int .i64 ro, .int .i64 lo, .int .i64 me, .int .i64 lst, .int .i64 dn, .bool op, .int .i64 76, .int .i64 id, .int .i64 ev, .int .i64 lst, .int .i64 0] 67)
  clear hs
  generalize World.alloc _ _ = v1 at *
  have b0 := B.cell 0
  have b1 := B.cell 1
  have b7 := B.cell 7
  have b9 := B.cell 9
  have gf := G.free
  have gc13 := G.cell 13
  have gc14 := G.cell 14
  rcases who_cases lst with ⟨k, F⟩ | ⟨k, F⟩ <;> rw [F.out] at hr <;> clear F <;> cases op
  · go_upto_region 6 with fail
    replace Z := Z.other (p := ⟨w.heap.size + 1 + 1, 13, none⟩) (by dsimp only; omega) (.int .i64 255)
    replace hb := hb.setCell (p := ⟨w.heap.size + 1 + 1, 13, none⟩) (by dsimp only; omega) (.int .i64 255)
    replace G := G.put 13 (.int .i64 255)
    generalize World.setCell _ _ _ = v2 at *
    simp only [List.setIfInBounds_toArray, List.set_cons_zero, List.set_cons_succ] at G
    clear b0 b1 b7 b9 gf gc13 gc14
    go_wp2_with (first
      | refine wpList_load_row rfl 67 _ rfl (w.heap.size + 1 + 1) rfl _ _ _ _ G Try.underlying67 rfl hi15 ?_
      | refine wpList_store_row rfl 67 _ _ rfl (w.heap.size + 1) #[.int .u32 id, .int .u32 ev, .int .i64 m, .int .i64 ch, .int .i64 ro, .int .i64 lo, .int .i64 me, .int .i64 lst, .int .i64 dn, .bool false, .int .i64 76, .int .i64 id, .int .i64 ev, .int .i64 255, .int .i64 0] rfl rfl _ _ Z hi15 rfl (by simp [Value.oneCell']) ?_)
    have hg2 := setRow_heap _ (w.heap.size + 1) _ #[.int .u32 id, .int .u32 ev, .int .i64 m, .int .i64 ch, .int .i64 ro, .int .i64 lo, .int .i64 me, .int .i64 lst, .int .i64 dn, .bool false, .int .i64 76, .int .i64 id, .int .i64 ev, .int .i64 255, .int .i64 0] 67 (0, 0) Z
    exact bodyPost_ret (v := .agg #[.int .u32 id, .int .u32 ev, .int .i64 m, .int .i64 ch, .int .i64 ro, .int .i64 lo, .int .i64 me, .int .i64 lst, .int .i64 dn, .bool false, .int .i64 76, .int .i64 id, .int .i64 ev, .int .i64 255, .int .i64 0]) (results_cell_row (p := 2) (ty := 67) rfl _ _ (w.heap.size + 1) _ #[.int .u32 id, .int .u32 ev, .int .i64 m, .int .i64 ch, .int .i64 ro, .int .i64 lo, .int .i64 me, .int .i64 lst, .int .i64 dn, .bool false, .int .i64 76, .int .i64 id, .int .i64 ev, .int .i64 255, .int .i64 0] _ _ rfl hg2 Try.underlying67 rfl hi15) rfl ⟨by rw [hr.out, hq.out]; rfl, below_setRow hb (by omega) _⟩
  · go_upto_region 6 with fail
    replace Z := Z.other (p := ⟨w.heap.size + 1 + 1, 13, none⟩) (by dsimp only; omega) (.int .i64 255)
    replace hb := hb.setCell (p := ⟨w.heap.size + 1 + 1, 13, none⟩) (by dsimp only; omega) (.int .i64 255)
    replace G := G.put 13 (.int .i64 255)
    replace Z := Z.other (p := ⟨w.heap.size + 1 + 1, 14, none⟩) (by dsimp only; omega) (.int .i64 1)
    replace hb := hb.setCell (p := ⟨w.heap.size + 1 + 1, 14, none⟩) (by dsimp only; omega) (.int .i64 1)
    replace G := G.put 14 (.int .i64 1)
    generalize World.setCell _ _ _ = v2 at *
    simp only [List.setIfInBounds_toArray, List.set_cons_zero, List.set_cons_succ] at G
    clear b0 b1 b7 b9 gf gc13 gc14
    go_wp2_with (first
      | refine wpList_load_row rfl 67 _ rfl (w.heap.size + 1 + 1) rfl _ _ _ _ G Try.underlying67 rfl hi15 ?_
      | refine wpList_store_row rfl 67 _ _ rfl (w.heap.size + 1) #[.int .u32 id, .int .u32 ev, .int .i64 m, .int .i64 ch, .int .i64 ro, .int .i64 lo, .int .i64 me, .int .i64 lst, .int .i64 dn, .bool true, .int .i64 76, .int .i64 id, .int .i64 ev, .int .i64 255, .int .i64 1] rfl rfl _ _ Z hi15 rfl (by simp [Value.oneCell']) ?_)
    have hg2 := setRow_heap _ (w.heap.size + 1) _ #[.int .u32 id, .int .u32 ev, .int .i64 m, .int .i64 ch, .int .i64 ro, .int .i64 lo, .int .i64 me, .int .i64 lst, .int .i64 dn, .bool true, .int .i64 76, .int .i64 id, .int .i64 ev, .int .i64 255, .int .i64 1] 67 (0, 0) Z
    exact bodyPost_ret (v := .agg #[.int .u32 id, .int .u32 ev, .int .i64 m, .int .i64 ch, .int .i64 ro, .int .i64 lo, .int .i64 me, .int .i64 lst, .int .i64 dn, .bool true, .int .i64 76, .int .i64 id, .int .i64 ev, .int .i64 255, .int .i64 1]) (results_cell_row (p := 2) (ty := 67) rfl _ _ (w.heap.size + 1) _ #[.int .u32 id, .int .u32 ev, .int .i64 m, .int .i64 ch, .int .i64 ro, .int .i64 lo, .int .i64 me, .int .i64 lst, .int .i64 dn, .bool true, .int .i64 76, .int .i64 id, .int .i64 ev, .int .i64 255, .int .i64 1] _ _ rfl hg2 Try.underlying67 rfl hi15) rfl ⟨by rw [hr.out, hq.out]; rfl, below_setRow hb (by omega) _⟩
  · go_upto_region 6 with fail
    clear b0 b1 b7 b9 gf gc13 gc14
    go_wp2_with (first
      | refine wpList_load_row rfl 67 _ rfl (w.heap.size + 1 + 1) rfl _ _ _ _ G Try.underlying67 rfl hi15 ?_
      | refine wpList_store_row rfl 67 _ _ rfl (w.heap.size + 1) #[.int .u32 id, .int .u32 ev, .int .i64 m, .int .i64 ch, .int .i64 ro, .int .i64 lo, .int .i64 me, .int .i64 lst, .int .i64 dn, .bool false, .int .i64 76, .int .i64 id, .int .i64 ev, .int .i64 lst, .int .i64 0] rfl rfl _ _ Z hi15 rfl (by simp [Value.oneCell']) ?_)
    have hg2 := setRow_heap _ (w.heap.size + 1) _ #[.int .u32 id, .int .u32 ev, .int .i64 m, .int .i64 ch, .int .i64 ro, .int .i64 lo, .int .i64 me, .int .i64 lst, .int .i64 dn, .bool false, .int .i64 76, .int .i64 id, .int .i64 ev, .int .i64 lst, .int .i64 0] 67 (0, 0) Z
    exact bodyPost_ret (v := .agg #[.int .u32 id, .int .u32 ev, .int .i64 m, .int .i64 ch, .int .i64 ro, .int .i64 lo, .int .i64 me, .int .i64 lst, .int .i64 dn, .bool false, .int .i64 76, .int .i64 id, .int .i64 ev, .int .i64 lst, .int .i64 0]) (results_cell_row (p := 2) (ty := 67) rfl _ _ (w.heap.size + 1) _ #[.int .u32 id, .int .u32 ev, .int .i64 m, .int .i64 ch, .int .i64 ro, .int .i64 lo, .int .i64 me, .int .i64 lst, .int .i64 dn, .bool false, .int .i64 76, .int .i64 id, .int .i64 ev, .int .i64 lst, .int .i64 0] _ _ rfl hg2 Try.underlying67 rfl hi15) rfl ⟨by rw [hr.out, hq.out]; rfl, below_setRow hb (by omega) _⟩
  · go_upto_region 6 with fail
    replace Z := Z.other (p := ⟨w.heap.size + 1 + 1, 14, none⟩) (by dsimp only; omega) (.int .i64 1)
    replace hb := hb.setCell (p := ⟨w.heap.size + 1 + 1, 14, none⟩) (by dsimp only; omega) (.int .i64 1)
    replace G := G.put 14 (.int .i64 1)
    generalize World.setCell _ _ _ = v2 at *
    simp only [List.setIfInBounds_toArray, List.set_cons_zero, List.set_cons_succ] at G
    clear b0 b1 b7 b9 gf gc13 gc14
    go_wp2_with (first
      | refine wpList_load_row rfl 67 _ rfl (w.heap.size + 1 + 1) rfl _ _ _ _ G Try.underlying67 rfl hi15 ?_
      | refine wpList_store_row rfl 67 _ _ rfl (w.heap.size + 1) #[.int .u32 id, .int .u32 ev, .int .i64 m, .int .i64 ch, .int .i64 ro, .int .i64 lo, .int .i64 me, .int .i64 lst, .int .i64 dn, .bool true, .int .i64 76, .int .i64 id, .int .i64 ev, .int .i64 lst, .int .i64 1] rfl rfl _ _ Z hi15 rfl (by simp [Value.oneCell']) ?_)
    have hg2 := setRow_heap _ (w.heap.size + 1) _ #[.int .u32 id, .int .u32 ev, .int .i64 m, .int .i64 ch, .int .i64 ro, .int .i64 lo, .int .i64 me, .int .i64 lst, .int .i64 dn, .bool true, .int .i64 76, .int .i64 id, .int .i64 ev, .int .i64 lst, .int .i64 1] 67 (0, 0) Z
    exact bodyPost_ret (v := .agg #[.int .u32 id, .int .u32 ev, .int .i64 m, .int .i64 ch, .int .i64 ro, .int .i64 lo, .int .i64 me, .int .i64 lst, .int .i64 dn, .bool true, .int .i64 76, .int .i64 id, .int .i64 ev, .int .i64 lst, .int .i64 1]) (results_cell_row (p := 2) (ty := 67) rfl _ _ (w.heap.size + 1) _ #[.int .u32 id, .int .u32 ev, .int .i64 m, .int .i64 ch, .int .i64 ro, .int .i64 lo, .int .i64 me, .int .i64 lst, .int .i64 dn, .bool true, .int .i64 76, .int .i64 id, .int .i64 ev, .int .i64 lst, .int .i64 1] _ _ rfl hg2 Try.underlying67 rfl hi15) rfl ⟨by rw [hr.out, hq.out]; rfl, below_setRow hb (by omega) _⟩


theorem dec_cases (c : Int) : ((c == 255) = true ∧ Hid ((if c = 255 then -1 else c) = -1)) ∨ ((c == 255) = false ∧ Hid ((if c = 255 then -1 else c) = c)) := by
  by_cases h : c = 255
  · exact .inl ⟨by simpa using h, by refine Lib.hid ?_; rw [if_pos h]⟩
  · exact .inr ⟨by simpa using h, by refine Lib.hid ?_; rw [if_neg h]⟩

set_option maxRecDepth 100000 in
set_option maxHeartbeats 4000000 in
theorem label_calls (id ev m ch ro lo me lst dn : Int) (op : Bool) (f a b c o r : Int) (hr : Hid (r = if c = 255 then -1 else c)) (h0 : 0 ≤ a) (h1 : a ≤ 4294967295) (h2 : 0 ≤ b) (h3 : b ≤ 4294967295) (w : World) : Calls Try.prog 30 #[.agg #[.int .u32 id, .int .u32 ev, .int .i64 m, .int .i64 ch, .int .i64 ro, .int .i64 lo, .int .i64 me, .int .i64 lst, .int .i64 dn, .bool op, .int .i64 f, .int .i64 a, .int .i64 b, .int .i64 c, .int .i64 o]] w fun e w' => e = .returned (.agg #[.int .u32 a, .int .u32 b, .int .i64 m, .int .i64 ch, .int .i64 ro, .int .i64 lo, .int .i64 me, .int .i64 r, .int .i64 dn, .bool (o == 1)]) ∧ Below w.heap.size w w' := by
  have D := CellsAt.new w [.int .u32 id, .int .u32 ev, .int .i64 m, .int .i64 ch, .int .i64 ro, .int .i64 lo, .int .i64 me, .int .i64 lst, .int .i64 dn, .bool op, .int .i64 f, .int .i64 a, .int .i64 b, .int .i64 c, .int .i64 o] 67
  have hb : Below w.heap.size w (w.alloc (.cells #[.int .u32 id, .int .u32 ev, .int .i64 m, .int .i64 ch, .int .i64 ro, .int .i64 lo, .int .i64 me, .int .i64 lst, .int .i64 dn, .bool op, .int .i64 f, .int .i64 a, .int .i64 b, .int .i64 c, .int .i64 o] 67 (0, 0))) := (Below.refl _ _).alloc (Nat.le_refl _) _
  obtain ⟨d0, d1, d2, d3, d4, d5, d6, d7, d8, d9, d10, d11, d12, d13, d14⟩ := D.all15
  have e1 : IntKind.u32.wrap a = a := IntWalk.u32_in _ (by omega)
  have e2 : IntKind.u32.wrap b = b := IntWalk.u32_in _ (by omega)
  go_enter Try.func30, Try.ntmps30
  go_wp2
  clear d0 d1 d2 d3 d4 d5 d6 d7 d8 d9 d10 d11 d12 d13 d14
  have Z := (BlkAt.new (w.alloc (.cells #[.int .u32 id, .int .u32 ev, .int .i64 m, .int .i64 ch, .int .i64 ro, .int .i64 lo, .int .i64 me, .int .i64 lst, .int .i64 dn, .bool op, .int .i64 f, .int .i64 a, .int .i64 b, .int .i64 c, .int .i64 o] 67)) #[.int .u32 0, .int .u32 0, .int .i64 0, .int .i64 0, .int .i64 0, .int .i64 0, .int .i64 0, .int .i64 0, .int .i64 0, .bool false] 43).alloc (.cells #[.int .u32 id, .int .u32 ev, .int .i64 m, .int .i64 ch, .int .i64 ro, .int .i64 lo, .int .i64 me, .int .i64 lst, .int .i64 dn, .bool op] 43)
  have G := BlkAt.new ((w.alloc (.cells #[.int .u32 id, .int .u32 ev, .int .i64 m, .int .i64 ch, .int .i64 ro, .int .i64 lo, .int .i64 me, .int .i64 lst, .int .i64 dn, .bool op, .int .i64 f, .int .i64 a, .int .i64 b, .int .i64 c, .int .i64 o] 67)).alloc (.cells #[.int .u32 0, .int .u32 0, .int .i64 0, .int .i64 0, .int .i64 0, .int .i64 0, .int .i64 0, .int .i64 0, .int .i64 0, .bool false] 43)) #[.int .u32 id, .int .u32 ev, .int .i64 m, .int .i64 ch, .int .i64 ro, .int .i64 lo, .int .i64 me, .int .i64 lst, .int .i64 dn, .bool op] 43
  replace D := (D.alloc (.cells #[.int .u32 0, .int .u32 0, .int .i64 0, .int .i64 0, .int .i64 0, .int .i64 0, .int .i64 0, .int .i64 0, .int .i64 0, .bool false] 43)).alloc (.cells #[.int .u32 id, .int .u32 ev, .int .i64 m, .int .i64 ch, .int .i64 ro, .int .i64 lo, .int .i64 me, .int .i64 lst, .int .i64 dn, .bool op] 43)
  replace hb := (hb.alloc hb.size (.cells #[.int .u32 0, .int .u32 0, .int .i64 0, .int .i64 0, .int .i64 0, .int .i64 0, .int .i64 0, .int .i64 0, .int .i64 0, .bool false] 43)).alloc (by simp; omega) (.cells #[.int .u32 id, .int .u32 ev, .int .i64 m, .int .i64 ch, .int .i64 ro, .int .i64 lo, .int .i64 me, .int .i64 lst, .int .i64 dn, .bool op] 43)
  simp only [World.size_alloc] at G Z
  generalize World.alloc _ _ = v0 at *
  replace D : Four v0 w.heap.size (.int .i64 a) (.int .i64 b) (.int .i64 c) (.int .i64 o) := ⟨D.lt, D.at_ 11 _ rfl, D.at_ 12 _ rfl, D.at_ 13 _ rfl, D.at_ 14 _ rfl⟩
  refine wp_region_held_drew (S := (fun W => W.cell? ⟨w.heap.size, 11, none⟩ = some (.int .i64 a) ∧ W.cell? ⟨w.heap.size, 12, none⟩ = some (.int .i64 b) ∧ W.cell? ⟨w.heap.size, 13, none⟩ = some (.int .i64 c) ∧ W.cell? ⟨w.heap.size, 14, none⟩ = some (.int .i64 o))) (by kernel_rfl) ?_ (fun hHeld => ?_)
  · exact D.drew
  refine wpAnyH_take (i := 0) (v := ?_) rfl (by kernel_rfl) (by kernel_rfl) (by kernel_rfl) (fun _ _ _ h => h) (Or.inl ⟨by rfl, ?_⟩) hHeld ?_
  rotate_left
  · (intro w hSw; (try dsimp only at hSw); go_simp; try with_reducible rfl)
  try simp only [Act.put, List.getElem_toArray, List.getElem_cons_zero, List.setIfInBounds_toArray, List.set_cons_zero, List.set_cons_succ]
  refine wpAnyH_take (i := 1) (v := ?_) rfl (by kernel_rfl) (by kernel_rfl) (by kernel_rfl) (fun _ _ _ h => h) (Or.inl ⟨by rfl, ?_⟩) hHeld ?_
  rotate_left
  · (intro w hSw; (try dsimp only at hSw); go_simp; try with_reducible rfl)
  try simp only [Act.put, List.getElem_toArray, List.getElem_cons_zero, List.getElem_cons_succ, List.setIfInBounds_toArray, List.set_cons_zero, List.set_cons_succ]
  refine wpAnyH_take (i := 2) (v := ?_) rfl (by kernel_rfl) (by kernel_rfl) (by kernel_rfl) (fun _ _ _ h => h) (Or.inl ⟨by rfl, ?_⟩) hHeld ?_
  rotate_left
  · (intro w hSw; (try dsimp only at hSw); go_simp; try with_reducible rfl)
  try simp only [Act.put, List.getElem_toArray, List.getElem_cons_zero, List.getElem_cons_succ, List.setIfInBounds_toArray, List.set_cons_zero, List.set_cons_succ]
  refine wpAnyH_take (i := 3) (v := ?_) rfl (by kernel_rfl) (by kernel_rfl) (by kernel_rfl) (fun _ _ _ h => h) (Or.inl ⟨by rfl, ?_⟩) hHeld ?_
  rotate_left
  · (intro w hSw; (try dsimp only at hSw); go_simp; try with_reducible rfl)
  try simp only [Act.put, List.getElem_toArray, List.getElem_cons_zero, List.getElem_cons_succ, List.setIfInBounds_toArray, List.set_cons_zero, List.set_cons_succ]
  refine wpAnyH_take (i := 4) (v := ?_) rfl (by kernel_rfl) (by kernel_rfl) (by kernel_rfl) (fun _ _ _ h => h) (Or.inl ⟨by rfl, ?_⟩) hHeld ?_
  rotate_left
  · (intro w hSw; (try dsimp only at hSw); go_simp; try with_reducible rfl)
  try simp only [Act.put, List.getElem_toArray, List.getElem_cons_zero, List.getElem_cons_succ, List.setIfInBounds_toArray, List.set_cons_zero, List.set_cons_succ]
  refine wpAnyH_take (i := 5) (v := ?_) rfl (by kernel_rfl) (by kernel_rfl) (by kernel_rfl) (fun _ _ _ h => h) (Or.inl ⟨by rfl, ?_⟩) hHeld ?_
  rotate_left
  · (intro w hSw; (try dsimp only at hSw); go_simp; try with_reducible rfl)
  try simp only [Act.put, List.getElem_toArray, List.getElem_cons_zero, List.getElem_cons_succ, List.setIfInBounds_toArray, List.set_cons_zero, List.set_cons_succ]
  refine wpAnyH_take (i := 6) (v := ?_) rfl (by kernel_rfl) (by kernel_rfl) (by kernel_rfl) (fun _ _ _ h => h) (Or.inl ⟨by rfl, ?_⟩) hHeld ?_
  rotate_left
  · (intro w hSw; (try dsimp only at hSw); go_simp; try with_reducible rfl)
  try simp only [Act.put, List.getElem_toArray, List.getElem_cons_zero, List.getElem_cons_succ, List.setIfInBounds_toArray, List.set_cons_zero, List.set_cons_succ]
  refine wpAnyH_take (i := 7) (v := ?_) rfl (by kernel_rfl) (by kernel_rfl) (by kernel_rfl) (fun _ _ _ h => h) (Or.inl ⟨by rfl, ?_⟩) hHeld ?_
  rotate_left
  · (intro w hSw; (try dsimp only at hSw); go_simp; try with_reducible rfl)
  try simp only [Act.put, List.getElem_toArray, List.getElem_cons_zero, List.getElem_cons_succ, List.setIfInBounds_toArray, List.set_cons_zero, List.set_cons_succ]
  refine wpAnyH_take (i := 8) (v := ?_) rfl (by kernel_rfl) (by kernel_rfl) (by kernel_rfl) (fun _ _ _ h => h) (Or.inl ⟨by rfl, ?_⟩) hHeld ?_
  rotate_left
  · (intro w hSw; (try dsimp only at hSw); go_simp; try with_reducible rfl)
  try simp only [Act.put, List.getElem_toArray, List.getElem_cons_zero, List.getElem_cons_succ, List.setIfInBounds_toArray, List.set_cons_zero, List.set_cons_succ]
  refine wpAnyH_take (i := 9) (v := ?_) rfl (by kernel_rfl) (by kernel_rfl) (by kernel_rfl) (fun _ _ _ h => h) (Or.inl ⟨by rfl, ?_⟩) hHeld ?_
  rotate_left
  · (intro w hSw; (try dsimp only at hSw); go_simp; try with_reducible rfl)
  try simp only [Act.put, List.getElem_toArray, List.getElem_cons_zero, List.getElem_cons_succ, List.setIfInBounds_toArray, List.set_cons_zero, List.set_cons_succ]
  refine wpAnyH_take (i := 10) (v := ?_) rfl (by kernel_rfl) (by kernel_rfl) (by kernel_rfl) (fun _ _ _ h => h) (Or.inl ⟨by rfl, ?_⟩) hHeld ?_
  rotate_left
  · (intro w hSw; (try dsimp only at hSw); go_simp; try with_reducible rfl)
  try simp only [Act.put, List.getElem_toArray, List.getElem_cons_zero, List.getElem_cons_succ, List.setIfInBounds_toArray, List.set_cons_zero, List.set_cons_succ]
  refine wpAnyH_take (i := 11) (v := ?_) rfl (by kernel_rfl) (by kernel_rfl) (by kernel_rfl) (fun _ _ _ h => h) (Or.inl ⟨by rfl, ?_⟩) hHeld ?_
  rotate_left
  · (intro w hSw; (try dsimp only at hSw); go_simp; try with_reducible rfl)
  try simp only [Act.put, List.getElem_toArray, List.getElem_cons_zero, List.getElem_cons_succ, List.setIfInBounds_toArray, List.set_cons_zero, List.set_cons_succ]
  refine wpAnyH_ready (rs := [12]) (by kernel_rfl) (by simp) ?_
  refine AllReadyH.cons rfl (fun K hK => ?_) AllReadyH.nil
  have gf12 := G.free
  have gc12 := G.cell 0
  go_simp
  replace D := D.other (p := ⟨w.heap.size + 1 + 1, 0, none⟩) (by dsimp only; omega) (.int .u32 a)
  replace Z := Z.other (p := ⟨w.heap.size + 1 + 1, 0, none⟩) (by dsimp only; omega) (.int .u32 a)
  replace hb := hb.setCell (p := ⟨w.heap.size + 1 + 1, 0, none⟩) (by dsimp only; omega) (.int .u32 a)
  replace G := G.put 0 (.int .u32 a)
  clear gf12 gc12
  generalize World.setCell _ _ _ = v12 at *
  simp only [List.setIfInBounds_toArray, List.set_cons_zero] at G
  refine hK.out _ _ ?_ (fun hHeld2 => ?_)
  · exact D.drew
  clear hK K hHeld
  have hHeld := hHeld2
  clear hHeld2
  try simp only [Act.put, List.setIfInBounds_toArray, List.set_cons_zero, List.set_cons_succ]
  refine wpAnyH_take (i := 13) (v := ?_) rfl (by kernel_rfl) (by kernel_rfl) (by kernel_rfl) (fun _ _ _ h => h) (Or.inl ⟨by rfl, ?_⟩) hHeld ?_
  rotate_left
  · (intro w hSw; (try dsimp only at hSw); go_simp; try with_reducible rfl)
  try simp only [Act.put, List.getElem_toArray, List.getElem_cons_zero, List.getElem_cons_succ, List.setIfInBounds_toArray, List.set_cons_zero, List.set_cons_succ]
  refine wpAnyH_ready (rs := [14]) (by kernel_rfl) (by simp) ?_
  refine AllReadyH.cons rfl (fun K hK => ?_) AllReadyH.nil
  have gf14 := G.free
  have gc14 := G.cell 1
  go_simp
  replace D := D.other (p := ⟨w.heap.size + 1 + 1, 1, none⟩) (by dsimp only; omega) (.int .u32 b)
  replace Z := Z.other (p := ⟨w.heap.size + 1 + 1, 1, none⟩) (by dsimp only; omega) (.int .u32 b)
  replace hb := hb.setCell (p := ⟨w.heap.size + 1 + 1, 1, none⟩) (by dsimp only; omega) (.int .u32 b)
  replace G := G.put 1 (.int .u32 b)
  clear gf14 gc14
  generalize World.setCell _ _ _ = v14 at *
  simp only [List.setIfInBounds_toArray, List.set_cons_zero, List.set_cons_succ] at G
  refine hK.out _ _ ?_ (fun hHeld2 => ?_)
  · exact D.drew
  clear hK K hHeld
  have hHeld := hHeld2
  clear hHeld2
  try simp only [Act.put, List.setIfInBounds_toArray, List.set_cons_zero, List.set_cons_succ]
  refine wpAnyH_take (i := 15) (v := ?_) rfl (by kernel_rfl) (by kernel_rfl) (by kernel_rfl) (fun _ _ _ h => h) (Or.inl ⟨by rfl, ?_⟩) hHeld ?_
  rotate_left
  · (intro w hSw; (try dsimp only at hSw); go_simp; try with_reducible rfl)
  try simp only [Act.put, List.getElem_toArray, List.getElem_cons_zero, List.getElem_cons_succ, List.setIfInBounds_toArray, List.set_cons_zero, List.set_cons_succ]
  refine wpAnyH_ready (rs := [16]) (by kernel_rfl) (by simp) ?_
  refine AllReadyH.cons rfl (fun K hK => ?_) AllReadyH.nil
  have gf16 := G.free
  have gc16 := G.cell 7
  go_simp
  replace D := D.other (p := ⟨w.heap.size + 1 + 1, 7, none⟩) (by dsimp only; omega) (.int .i64 c)
  replace Z := Z.other (p := ⟨w.heap.size + 1 + 1, 7, none⟩) (by dsimp only; omega) (.int .i64 c)
  replace hb := hb.setCell (p := ⟨w.heap.size + 1 + 1, 7, none⟩) (by dsimp only; omega) (.int .i64 c)
  replace G := G.put 7 (.int .i64 c)
  clear gf16 gc16
  generalize World.setCell _ _ _ = v16 at *
  simp only [List.setIfInBounds_toArray, List.set_cons_zero, List.set_cons_succ] at G
  refine hK.out _ _ ?_ (fun hHeld2 => ?_)
  · exact D.drew
  clear hK K hHeld
  have hHeld := hHeld2
  clear hHeld2
  try simp only [Act.put, List.setIfInBounds_toArray, List.set_cons_zero, List.set_cons_succ]
  refine wpAnyH_take (i := 17) (v := ?_) rfl (by kernel_rfl) (by kernel_rfl) (by kernel_rfl) (fun _ _ _ h => h) (Or.inl ⟨by rfl, ?_⟩) hHeld ?_
  rotate_left
  · (intro w hSw; (try dsimp only at hSw); go_simp; try with_reducible rfl)
  try simp only [Act.put, List.getElem_toArray, List.getElem_cons_zero, List.getElem_cons_succ, List.setIfInBounds_toArray, List.set_cons_zero, List.set_cons_succ]
  refine wpAnyH_ready (rs := [18]) (by kernel_rfl) (by simp) ?_
  refine AllReadyH.cons rfl (fun K hK => ?_) AllReadyH.nil
  have gf18 := G.free
  have gc18 := G.cell 9
  go_simp
  replace D := D.other (p := ⟨w.heap.size + 1 + 1, 9, none⟩) (by dsimp only; omega) (.bool (o == 1))
  replace Z := Z.other (p := ⟨w.heap.size + 1 + 1, 9, none⟩) (by dsimp only; omega) (.bool (o == 1))
  replace hb := hb.setCell (p := ⟨w.heap.size + 1 + 1, 9, none⟩) (by dsimp only; omega) (.bool (o == 1))
  replace G := G.put 9 (.bool (o == 1))
  clear gf18 gc18
  generalize World.setCell _ _ _ = v18 at *
  simp only [List.setIfInBounds_toArray, List.set_cons_zero, List.set_cons_succ] at G
  refine hK.out _ _ ?_ (fun hHeld2 => ?_)
  · exact D.drew
  clear hK K hHeld
  have hHeld := hHeld2
  clear hHeld2
  try simp only [Act.put, List.setIfInBounds_toArray, List.set_cons_zero, List.set_cons_succ]
  refine wpAnyH_done (by kernel_rfl) ?_ _
  have hd := D.c13
  have hi10 := (zero_of_info label_size).2
  rcases dec_cases c with ⟨k, F⟩ | ⟨k, F⟩
  · have F2 : Hid (r = -1) := by refine Lib.hid ?_; rw [hr.out, F.out]
    clear F hr
    have gf := G.free
    have gc := G.cell 7
    go_upto_region 5 with fail
    replace Z := Z.other (p := ⟨w.heap.size + 1 + 1, 7, none⟩) (by dsimp only; omega) (.int .i64 (-1))
    replace hb := hb.setCell (p := ⟨w.heap.size + 1 + 1, 7, none⟩) (by dsimp only; omega) (.int .i64 (-1))
    replace G := G.put 7 (.int .i64 (-1))
    clear gf gc
    generalize World.setCell _ _ _ = v19 at *
    simp only [List.setIfInBounds_toArray, List.set_cons_zero, List.set_cons_succ] at G
    go_wp2_with (first
      | refine wpList_load_row rfl 43 _ rfl (w.heap.size + 1 + 1) rfl _ _ _ _ G.drew Try.underlying43 rfl hi10 ?_
      | refine wpList_store_row rfl 43 _ _ rfl (w.heap.size + 1) #[.int .u32 a, .int .u32 b, .int .i64 m, .int .i64 ch, .int .i64 ro, .int .i64 lo, .int .i64 me, .int .i64 (-1), .int .i64 dn, .bool (o == 1)] rfl rfl _ _ Z.drew hi10 rfl (by simp [Value.oneCell']) ?_)
    have hg2 := setRow_heap _ (w.heap.size + 1) _ #[.int .u32 a, .int .u32 b, .int .i64 m, .int .i64 ch, .int .i64 ro, .int .i64 lo, .int .i64 me, .int .i64 (-1), .int .i64 dn, .bool (o == 1)] 43 (0, 0) Z.drew
    exact bodyPost_ret (v := .agg #[.int .u32 a, .int .u32 b, .int .i64 m, .int .i64 ch, .int .i64 ro, .int .i64 lo, .int .i64 me, .int .i64 (-1), .int .i64 dn, .bool (o == 1)]) (results_cell_row (p := 2) (ty := 43) rfl _ _ (w.heap.size + 1) _ #[.int .u32 a, .int .u32 b, .int .i64 m, .int .i64 ch, .int .i64 ro, .int .i64 lo, .int .i64 me, .int .i64 (-1), .int .i64 dn, .bool (o == 1)] _ _ rfl hg2 Try.underlying43 rfl hi10) rfl ⟨by rw [F2.out], below_setRow hb.drew (by omega) _⟩
  · have F2 : Hid (r = c) := by refine Lib.hid ?_; rw [hr.out, F.out]
    clear F hr
    go_wp2_with (first
      | refine wpList_load_row rfl 43 _ rfl (w.heap.size + 1 + 1) rfl _ _ _ _ G.drew Try.underlying43 rfl hi10 ?_
      | refine wpList_store_row rfl 43 _ _ rfl (w.heap.size + 1) #[.int .u32 a, .int .u32 b, .int .i64 m, .int .i64 ch, .int .i64 ro, .int .i64 lo, .int .i64 me, .int .i64 c, .int .i64 dn, .bool (o == 1)] rfl rfl _ _ Z.drew hi10 rfl (by simp [Value.oneCell']) ?_)
    have hg2 := setRow_heap _ (w.heap.size + 1) _ #[.int .u32 a, .int .u32 b, .int .i64 m, .int .i64 ch, .int .i64 ro, .int .i64 lo, .int .i64 me, .int .i64 c, .int .i64 dn, .bool (o == 1)] 43 (0, 0) Z.drew
    exact bodyPost_ret (v := .agg #[.int .u32 a, .int .u32 b, .int .i64 m, .int .i64 ch, .int .i64 ro, .int .i64 lo, .int .i64 me, .int .i64 c, .int .i64 dn, .bool (o == 1)]) (results_cell_row (p := 2) (ty := 43) rfl _ _ (w.heap.size + 1) _ #[.int .u32 a, .int .u32 b, .int .i64 m, .int .i64 ch, .int .i64 ro, .int .i64 lo, .int .i64 me, .int .i64 c, .int .i64 dn, .bool (o == 1)] _ _ rfl hg2 Try.underlying43 rfl hi10) rfl ⟨by rw [F2.out], below_setRow hb.drew (by omega) _⟩


end Go.Proofs.Ytcngonedcnddlaa
