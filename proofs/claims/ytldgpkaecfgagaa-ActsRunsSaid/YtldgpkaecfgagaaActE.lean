/- The walk of package acts's do. -/
import Derived.Test.YtldgpkaecfgagaaActD
import Derived.Laws.EntriesVeiled
namespace Go.Proofs.Ytldgpkaecfgagaa
open Go.RowKit PolyM PackM FoldM DevM

theorem cell3_far {W : World} {g o1 o2 o3 : Nat} {p : Addr} {u v z : Value} (h : p.block ≠ g) : (((W.setCell ⟨g, o1, none⟩ u).setCell ⟨g, o2, none⟩ v).setCell ⟨g, o3, none⟩ z).cell? p = W.cell? p :=
  (World.cell?_setCell_other _ _ _ _ (fun q => h (by rw [← q]))).trans ((World.cell?_setCell_other _ _ _ _ (fun q => h (by rw [← q]))).trans (World.cell?_setCell_other _ _ _ _ (fun q => h (by rw [← q]))))
/-- The boxes, the answer's set aside. -/
structure Boxes3 (w W : World) (x : Act5) (A' : Option Addr) (L C' : Nat) (A : Option Addr) (n C : Nat) (B : Option Addr) (m D : Nat) (dd : Bool) : Prop where
  a : BoxA 109 W w.heap.size x (.slice A' L C')
  d : BoxD W (w.heap.size + 1) (.slice A n C) (.slice B m D) (.bool dd)
theorem BoxA.other {t : TypeId} {w : World} {b : Nat} {x : Act5} {y : Value} (h : BoxA t w b x y) {p : Addr} (hp : b ≠ p.block) (u : Value) : BoxA t (w.setCell p u) b x y := by
  unfold BoxA at *
  rw [Below.heap_setCell _ _ _ _ hp]; exact h
theorem Boxes.three {w W : World} {x : Act5} {A' : Option Addr} {L C' : Nat} {A : Option Addr} {n C : Nat} {B : Option Addr} {m D : Nat} {dd : Bool} (h : Boxes w W x A' L C' A n C B m D dd) (u v z : Value) :
    Boxes3 w (((W.setCell ⟨w.heap.size + 1 + 1, 0, none⟩ u).setCell ⟨w.heap.size + 1 + 1, 1, none⟩ v).setCell ⟨w.heap.size + 1 + 1, 2, none⟩ z) x A' L C' A n C B m D dd :=
  have n1 : w.heap.size ≠ w.heap.size + 1 + 1 := by omega
  have n2 : w.heap.size + 1 ≠ w.heap.size + 1 + 1 := by omega
  ⟨((h.a.other n1 _).other n1 _).other n1 _, ((h.d.other n2 _).other n2 _).other n2 _⟩

set_option maxRecDepth 100000 in
set_option maxHeartbeats 4000000 in
theorem do_dead (x : Act5) (A' : Option Addr) (L C' : Nat) (A : Option Addr) (n C : Nat) (B : Option Addr) (m D : Nat) (w : World) :
    Calls Try.prog 86 #[.agg #[.int .i64 x.disk, .int .u8 x.kind, .int .i64 x.at_, .slice A' L C'], .agg #[.slice A n C, .slice B m D, .bool true]] w fun e w' => e = .returned (.tuple #[.agg #[.slice A n C, .slice B m D, .bool true], .int .i64 0]) ∧ Below w.heap.size w w' := by
  have bx := Boxes.new w x A' L C' A n C B m D true
  have d0 := bx.d.c0
  have d1 := bx.d.c1
  have d2 := bx.d.c2
  have f0 := bx.r.c0
  have f1 := bx.r.c1
  have f2 := bx.r.c2
  have r0 := bx.r.fr (o := 0)
  have r1 := bx.r.fr (o := 1)
  have r2 := bx.r.fr (o := 2)
  have hB := bx.b
  clear bx
  go_enter Try.func86, Try.ntmps86
  go_wp2
  exact bodyPost_ret (v := .tuple #[.agg #[.slice A n C, .slice B m D, .bool true], .int .i64 0]) (by simp [results, Try.results86, go_sem]) rfl ⟨rfl, (((Below.refl _ _).alloc (Nat.le_refl _) _).alloc (by simp) _).alloc (by simp; omega) _⟩
set_option maxRecDepth 100000 in
set_option maxHeartbeats 4000000 in
theorem do_1 (dk at_ : Int) (dat : List Int) (A' : Option Addr) (L C' : Nat) (v : Value) (d : Dev) (w : World) (hok : ActOk w A' L ⟨dk, 1, at_, dat⟩) (h : DevV w v d) (hdd : d.dead = false) :
    Calls Try.prog 86 #[.agg #[.int .i64 dk, .int .u8 1, .int .i64 at_, .slice A' L C'], v] w (DevIs w (writeE d at_ dat) (resD (writeE d at_ dat) (putD d at_ dat))) := by
  have hv := h
  obtain ⟨A, n, C, hs, B, m, D, ht, rfl, h1, h2⟩ := h
  have bx := Boxes.new w ⟨dk, 1, at_, dat⟩ A' L C' A n C B m D d.dead
  have cc := fun W (hW : Below w.heap.size w W) => deed_write ⟨dk, 1, at_, dat⟩ A' L C' _ d W (hok.below hW (Nat.le_refl _)) (hv.below hW (Nat.le_refl _))
  simp only at cc bx
  rw [hdd] at bx cc ⊢
  generalize (resD (writeE d at_ dat) (putD d at_ dat) : Dev) = rd at *
  generalize (writeE d at_ dat : Int) = er at *
  clear hv h1 h2 hok hdd
  have a0 := bx.a.c0
  have a1 := bx.a.c1
  have a2 := bx.a.c2
  have a3 := bx.a.c3
  have d2 := bx.d.c2
  simp only at a0 a1 a2 a3
  have hS := heap_alloc_new (((w.alloc (.cells #[.int .i64 dk, .int .u8 1, .int .i64 at_, .slice A' L C'] 109)).alloc (.cells #[.slice A n C, .slice B m D, .bool false] 25)).alloc (.cells #[.slice none 0 0, .slice none 0 0, .bool false] 25)) (.cells #[.nilFunc, .func (.func 102) #[] #[], .func (.func 103) #[] #[], .func (.func 104) #[] #[]] 124)
  simp only [World.size_alloc] at hS
  have hb4 : Below (((w.alloc (.cells #[.int .i64 dk, .int .u8 1, .int .i64 at_, .slice A' L C'] 109)).alloc (.cells #[.slice A n C, .slice B m D, .bool false] 25)).alloc (.cells #[.slice none 0 0, .slice none 0 0, .bool false] 25)).heap.size (((w.alloc (.cells #[.int .i64 dk, .int .u8 1, .int .i64 at_, .slice A' L C'] 109)).alloc (.cells #[.slice A n C, .slice B m D, .bool false] 25)).alloc (.cells #[.slice none 0 0, .slice none 0 0, .bool false] 25)) ((((w.alloc (.cells #[.int .i64 dk, .int .u8 1, .int .i64 at_, .slice A' L C'] 109)).alloc (.cells #[.slice A n C, .slice B m D, .bool false] 25)).alloc (.cells #[.slice none 0 0, .slice none 0 0, .bool false] 25)).alloc (.cells #[.nilFunc, .func (.func 102) #[] #[], .func (.func 103) #[] #[], .func (.func 104) #[] #[]] 124)) := (Below.refl _ _).alloc (Nat.le_refl _) _
  have BX := Lib.hid (bx.below hb4)
  have TB := Lib.hid (cell_of_row _ _ 1 _ _ _ hS)
  clear bx hb4 hS
  go_enter Try.func86, Try.ntmps86
  go_upto_region 4 with fail
  clear a0 a1 a2 a3 d2
  generalize ((((w.alloc (.cells #[.int .i64 dk, .int .u8 1, .int .i64 at_, .slice A' L C'] 109)).alloc (.cells #[.slice A n C, .slice B m D, .bool false] 25)).alloc (.cells #[.slice none 0 0, .slice none 0 0, .bool false] 25)).alloc (.cells #[.nilFunc, .func (.func 102) #[] #[], .func (.func 103) #[] #[], .func (.func 104) #[] #[]] 124)) = w4 at *
  have bx := BX.out
  have a0 := bx.a.c0
  have a1 := bx.a.c1
  have a2 := bx.a.c2
  have a3 := bx.a.c3
  have d0 := bx.d.c0
  have d1 := bx.d.c1
  have d2 := bx.d.c2
  have t1 := TB.out
  simp at t1
  simp only at a0 a1 a2 a3
  go_cut [5] (fun s5 wx => s5 = .int .i64 er ∧ ∃ (A2 : Option Addr) (n2 C2 : Nat) (B2 : Option Addr) (m2 D2 : Nat), BoxD wx (w.heap.size + 1 + 1) (.slice A2 n2 C2) (.slice B2 m2 D2) (.bool rd.dead) ∧ DevN w.heap.size wx (.agg #[.slice A2 n2 C2, .slice B2 m2 D2, .bool rd.dead]) rd ∧ Below w.heap.size w wx)
  case first =>
    refine wp_region_held_drew (S := (fun W => W.cell? ⟨w.heap.size, 0, none⟩ = some (.int .i64 dk) ∧ W.cell? ⟨w.heap.size, 1, none⟩ = some (.int .u8 1) ∧ W.cell? ⟨w.heap.size, 2, none⟩ = some (.int .i64 at_) ∧ W.cell? ⟨w.heap.size, 3, none⟩ = some (.slice A' L C') ∧ W.cell? ⟨w.heap.size + 1, 0, none⟩ = some (.slice A n C) ∧ W.cell? ⟨w.heap.size + 1, 1, none⟩ = some (.slice B m D) ∧ W.cell? ⟨w.heap.size + 1, 2, none⟩ = some (.bool false) ∧ W.cell? ⟨w.heap.size + 1 + 1 + 1, 1, none⟩ = some (.func (.func 102) #[] #[]))) (by kernel_rfl) ?_ (fun hHeld => ?_)
    · first | exact hHeld | exact ⟨a0, a1, a2, a3, d0, d1, d2, t1⟩ | exact ⟨c9.a.c0, c9.a.c1, c9.a.c2, c9.a.c3, c9.d.c0, c9.d.c1, c9.d.c2, t9⟩ | exact ⟨y9.a.c0, y9.a.c1, y9.a.c2, y9.a.c3, y9.d.c0, y9.d.c1, y9.d.c2, (cell3_far (by simp)).trans t9⟩
    refine wpAnyH_take (i := 0) (v := ?_) rfl (by kernel_rfl) (by kernel_rfl) (by kernel_rfl) (fun _ _ _ h => h) (Or.inl ⟨by rfl, ?_⟩) hHeld ?_
    rotate_left
    · (intro w hSw; (try dsimp only at hSw); go_simp; try with_reducible rfl)
    try simp only [Act.put, List.getElem_toArray, List.getElem_cons_zero, List.setIfInBounds_toArray, List.set_cons_zero, List.set_cons_succ]
    refine wpAnyH_take (i := 1) (v := ?_) rfl (by kernel_rfl) (by kernel_rfl) (by kernel_rfl) (fun _ _ _ h => h) (Or.inl ⟨by rfl, ?_⟩) hHeld ?_
    rotate_left
    · (intro w hSw; (try dsimp only at hSw); go_simp; try with_reducible rfl)
    try simp only [Act.put, List.getElem_toArray, List.getElem_cons_zero, List.getElem_cons_succ, List.setIfInBounds_toArray, List.set_cons_zero, List.set_cons_succ]
    refine wpAnyH_take (i := 2) (v := ?_) rfl (by kernel_rfl) (by kernel_rfl) (by kernel_rfl) (fun _ _ _ h => h) (Or.inl ⟨by rfl, ?_⟩) hHeld ?_
    rotate_left
    · (intro w hSw; (try dsimp only at hSw); go_simp; try with_reducible rfl)
    try simp only [Act.put, List.getElem_toArray, List.getElem_cons_zero, List.getElem_cons_succ, List.setIfInBounds_toArray, List.set_cons_zero, List.set_cons_succ]
    refine wpAnyH_take (i := 3) (v := ?_) rfl (by kernel_rfl) (by kernel_rfl) (by kernel_rfl) (fun _ _ _ h => h) (Or.inl ⟨by rfl, ?_⟩) hHeld ?_
    rotate_left
    · (intro w hSw; (try dsimp only at hSw); go_simp; try with_reducible rfl)
    try simp only [Act.put, List.getElem_toArray, List.getElem_cons_zero, List.getElem_cons_succ, List.setIfInBounds_toArray, List.set_cons_zero, List.set_cons_succ]
    refine wpAnyH_take (i := 4) (v := ?_) rfl (by kernel_rfl) (by kernel_rfl) (by kernel_rfl) (fun _ _ _ h => h) (Or.inl ⟨by rfl, ?_⟩) hHeld ?_
    rotate_left
    · (intro w hSw; (try dsimp only at hSw); go_simp; try with_reducible rfl)
    try simp only [Act.put, List.getElem_toArray, List.getElem_cons_zero, List.getElem_cons_succ, List.setIfInBounds_toArray, List.set_cons_zero, List.set_cons_succ]
    refine wpAnyH_take (i := 5) (v := ?_) rfl (by kernel_rfl) (by kernel_rfl) (by kernel_rfl) (fun _ _ _ h => h) (Or.inl ⟨by rfl, ?_⟩) hHeld ?_
    rotate_left
    · (intro w hSw; (try dsimp only at hSw); go_simp; try with_reducible rfl)
    try simp only [Act.put, List.getElem_toArray, List.getElem_cons_zero, List.getElem_cons_succ, List.setIfInBounds_toArray, List.set_cons_zero, List.set_cons_succ]
    refine wpAnyH_ready (rs := [6]) (by kernel_rfl) (by simp) ?_
    refine AllReadyH.cons rfl (fun K hK => ?_) AllReadyH.nil
    go_simp
    (with_reducible refine (cc _ (bx.b.trans ((Below.refl _ _).drew.mono bx.b.size))).mono ?_)
    rintro e w9 ⟨v9, rfl, hN9, hb90⟩
    obtain ⟨A2, n2, C2, B2, m2, D2, rfl, -, -⟩ := hN9.form
    have hb9 : Below w4.heap.size w4 w9 := (Below.refl _ _).drew.trans (hb90.mono (Nat.le_refl _))
    have c9 := bx.below hb9
    have t9 := (hb9.cell (p := ⟨w.heap.size + 1 + 1 + 1, 1, none⟩) (cell_lt t1)).trans t1
    have x9 := c9.r.c0
    have x91 := c9.r.c1
    have x92 := c9.r.c2
    have r9 := c9.r.fr (o := 0)
    have r91 := c9.r.fr (o := 1)
    have r92 := c9.r.fr (o := 2)
    have hP := Lib.hid (hN9.setBox3 c9.r (.slice A2 n2 C2) (.slice B2 m2 D2) (.bool rd.dead))
    have hK9 := Lib.hid (below_set3 (g := w.heap.size + 1 + 1) (o1 := 0) (o2 := 1) (o3 := 2) (x := .slice A2 n2 C2) (y := .slice B2 m2 D2) (z := .bool rd.dead) c9.b (by omega))
    have y9 : Boxes3 w (((w9.setCell ⟨w.heap.size + 1 + 1, 0, none⟩ (.slice A2 n2 C2)).setCell ⟨w.heap.size + 1 + 1, 1, none⟩ (.slice B2 m2 D2)).setCell ⟨w.heap.size + 1 + 1, 2, none⟩ (.bool rd.dead)) ⟨dk, 1, at_, dat⟩ A' L C' A n C B m D false := c9.three _ _ _
    clear hb90 hb9
    go_wp2_with fail
    refine hK.out _ _ ?_ (fun hHeld2 => ?_)
    · first | exact hHeld | exact ⟨a0, a1, a2, a3, d0, d1, d2, t1⟩ | exact ⟨c9.a.c0, c9.a.c1, c9.a.c2, c9.a.c3, c9.d.c0, c9.d.c1, c9.d.c2, t9⟩ | exact ⟨y9.a.c0, y9.a.c1, y9.a.c2, y9.a.c3, y9.d.c0, y9.d.c1, y9.d.c2, (cell3_far (by simp)).trans t9⟩
    clear hK K hHeld
    have hHeld := hHeld2
    clear hHeld2
    try simp only [Act.put, List.setIfInBounds_toArray, List.set_cons_zero, List.set_cons_succ]
    refine wpAnyH_take (i := 7) (v := ?_) rfl (by kernel_rfl) (by kernel_rfl) (by kernel_rfl) (fun _ _ _ h => h) (Or.inl ⟨by rfl, ?_⟩) hHeld ?_
    rotate_left
    · (intro w hSw; (try dsimp only at hSw); go_simp; try with_reducible rfl)
    try simp only [Act.put, List.getElem_toArray, List.getElem_cons_zero, List.getElem_cons_succ, List.setIfInBounds_toArray, List.set_cons_zero, List.set_cons_succ]
    refine wpAnyH_take (i := 8) (v := ?_) rfl (by kernel_rfl) (by kernel_rfl) (by kernel_rfl) (fun _ _ _ h => h) (Or.inl ⟨by rfl, ?_⟩) hHeld ?_
    rotate_left
    · (intro w hSw; (try dsimp only at hSw); go_simp; try with_reducible rfl)
    try simp only [Act.put, List.getElem_toArray, List.getElem_cons_zero, List.getElem_cons_succ, List.setIfInBounds_toArray, List.set_cons_zero, List.set_cons_succ]
    refine wpAnyH_ready (rs := [9]) (by kernel_rfl) (by simp) ?_
    refine AllReadyH.cons rfl (fun K hK => ?_) AllReadyH.nil
    go_simp
    refine hK.out _ _ ?_ (fun hHeld2 => ?_)
    · first | exact hHeld | exact ⟨a0, a1, a2, a3, d0, d1, d2, t1⟩ | exact ⟨c9.a.c0, c9.a.c1, c9.a.c2, c9.a.c3, c9.d.c0, c9.d.c1, c9.d.c2, t9⟩ | exact ⟨y9.a.c0, y9.a.c1, y9.a.c2, y9.a.c3, y9.d.c0, y9.d.c1, y9.d.c2, (cell3_far (by simp)).trans t9⟩
    clear hK K hHeld
    have hHeld := hHeld2
    clear hHeld2
    try simp only [Act.put, List.setIfInBounds_toArray, List.set_cons_zero, List.set_cons_succ]
    refine wpAnyH_ready (rs := [10]) (by kernel_rfl) (by simp) ?_
    refine AllReadyH.cons rfl (fun K hK => ?_) AllReadyH.nil
    go_simp
    refine hK.out _ _ ?_ (fun hHeld2 => ?_)
    · first | exact hHeld | exact ⟨a0, a1, a2, a3, d0, d1, d2, t1⟩ | exact ⟨c9.a.c0, c9.a.c1, c9.a.c2, c9.a.c3, c9.d.c0, c9.d.c1, c9.d.c2, t9⟩ | exact ⟨y9.a.c0, y9.a.c1, y9.a.c2, y9.a.c3, y9.d.c0, y9.d.c1, y9.d.c2, (cell3_far (by simp)).trans t9⟩
    clear hK K hHeld
    have hHeld := hHeld2
    clear hHeld2
    try simp only [Act.put, List.setIfInBounds_toArray, List.set_cons_zero, List.set_cons_succ]
    refine wpAnyH_done (by kernel_rfl) ?_ _
    clear hHeld
    go_wp2_with fail
    go_meet
    case rel => exact ⟨rfl, A2, n2, C2, B2, m2, D2, hP.out.2, (hP.out.1).mono bx.b.size, hK9.out⟩
  case rest =>
    obtain ⟨rfl, A2, n2, C2, B2, m2, D2, x3, hN, hB⟩ := hcut
    have f0 := x3.c0
    have f1 := x3.c1
    have f2 := x3.c2
    clear x3 a0 a1 a2 a3 d0 d1 d2 t1 bx BX TB cc
    go_wp2
    exact bodyPost_ret (v := .tuple #[.agg #[.slice A2 n2 C2, .slice B2 m2 D2, .bool rd.dead], .int .i64 er]) (by simp [results, Try.results86, go_sem, f0, f1, f2]) rfl ⟨_, rfl, hN, hB⟩
set_option maxRecDepth 100000 in
set_option maxHeartbeats 4000000 in
theorem do_2 (dk at_ : Int) (dat : List Int) (A' : Option Addr) (L C' : Nat) (v : Value) (d : Dev) (w : World) (hok : ActOk w A' L ⟨dk, 2, at_, dat⟩) (h : DevV w v d) (hdd : d.dead = false) :
    Calls Try.prog 86 #[.agg #[.int .i64 dk, .int .u8 2, .int .i64 at_, .slice A' L C'], v] w (DevIs w (useE d at_ dat) (resD (useE d at_ dat) (fuaD d at_ dat))) := by
  have hv := h
  obtain ⟨A, n, C, hs, B, m, D, ht, rfl, h1, h2⟩ := h
  have bx := Boxes.new w ⟨dk, 2, at_, dat⟩ A' L C' A n C B m D d.dead
  have cc := fun W (hW : Below w.heap.size w W) => deed_fua ⟨dk, 2, at_, dat⟩ A' L C' _ d W (hok.below hW (Nat.le_refl _)) (hv.below hW (Nat.le_refl _))
  simp only at cc bx
  rw [hdd] at bx cc ⊢
  generalize (resD (useE d at_ dat) (fuaD d at_ dat) : Dev) = rd at *
  generalize (useE d at_ dat : Int) = er at *
  clear hv h1 h2 hok hdd
  have a0 := bx.a.c0
  have a1 := bx.a.c1
  have a2 := bx.a.c2
  have a3 := bx.a.c3
  have d2 := bx.d.c2
  simp only at a0 a1 a2 a3
  have hS := heap_alloc_new (((w.alloc (.cells #[.int .i64 dk, .int .u8 2, .int .i64 at_, .slice A' L C'] 109)).alloc (.cells #[.slice A n C, .slice B m D, .bool false] 25)).alloc (.cells #[.slice none 0 0, .slice none 0 0, .bool false] 25)) (.cells #[.nilFunc, .func (.func 102) #[] #[], .func (.func 103) #[] #[], .func (.func 104) #[] #[]] 124)
  simp only [World.size_alloc] at hS
  have hb4 : Below (((w.alloc (.cells #[.int .i64 dk, .int .u8 2, .int .i64 at_, .slice A' L C'] 109)).alloc (.cells #[.slice A n C, .slice B m D, .bool false] 25)).alloc (.cells #[.slice none 0 0, .slice none 0 0, .bool false] 25)).heap.size (((w.alloc (.cells #[.int .i64 dk, .int .u8 2, .int .i64 at_, .slice A' L C'] 109)).alloc (.cells #[.slice A n C, .slice B m D, .bool false] 25)).alloc (.cells #[.slice none 0 0, .slice none 0 0, .bool false] 25)) ((((w.alloc (.cells #[.int .i64 dk, .int .u8 2, .int .i64 at_, .slice A' L C'] 109)).alloc (.cells #[.slice A n C, .slice B m D, .bool false] 25)).alloc (.cells #[.slice none 0 0, .slice none 0 0, .bool false] 25)).alloc (.cells #[.nilFunc, .func (.func 102) #[] #[], .func (.func 103) #[] #[], .func (.func 104) #[] #[]] 124)) := (Below.refl _ _).alloc (Nat.le_refl _) _
  have BX := Lib.hid (bx.below hb4)
  have TB := Lib.hid (cell_of_row _ _ 2 _ _ _ hS)
  clear bx hb4 hS
  go_enter Try.func86, Try.ntmps86
  go_upto_region 4 with fail
  clear a0 a1 a2 a3 d2
  generalize ((((w.alloc (.cells #[.int .i64 dk, .int .u8 2, .int .i64 at_, .slice A' L C'] 109)).alloc (.cells #[.slice A n C, .slice B m D, .bool false] 25)).alloc (.cells #[.slice none 0 0, .slice none 0 0, .bool false] 25)).alloc (.cells #[.nilFunc, .func (.func 102) #[] #[], .func (.func 103) #[] #[], .func (.func 104) #[] #[]] 124)) = w4 at *
  have bx := BX.out
  have a0 := bx.a.c0
  have a1 := bx.a.c1
  have a2 := bx.a.c2
  have a3 := bx.a.c3
  have d0 := bx.d.c0
  have d1 := bx.d.c1
  have d2 := bx.d.c2
  have t1 := TB.out
  simp at t1
  simp only at a0 a1 a2 a3
  go_cut [5] (fun s5 wx => s5 = .int .i64 er ∧ ∃ (A2 : Option Addr) (n2 C2 : Nat) (B2 : Option Addr) (m2 D2 : Nat), BoxD wx (w.heap.size + 1 + 1) (.slice A2 n2 C2) (.slice B2 m2 D2) (.bool rd.dead) ∧ DevN w.heap.size wx (.agg #[.slice A2 n2 C2, .slice B2 m2 D2, .bool rd.dead]) rd ∧ Below w.heap.size w wx)
  case first =>
    refine wp_region_held_drew (S := (fun W => W.cell? ⟨w.heap.size, 0, none⟩ = some (.int .i64 dk) ∧ W.cell? ⟨w.heap.size, 1, none⟩ = some (.int .u8 2) ∧ W.cell? ⟨w.heap.size, 2, none⟩ = some (.int .i64 at_) ∧ W.cell? ⟨w.heap.size, 3, none⟩ = some (.slice A' L C') ∧ W.cell? ⟨w.heap.size + 1, 0, none⟩ = some (.slice A n C) ∧ W.cell? ⟨w.heap.size + 1, 1, none⟩ = some (.slice B m D) ∧ W.cell? ⟨w.heap.size + 1, 2, none⟩ = some (.bool false) ∧ W.cell? ⟨w.heap.size + 1 + 1 + 1, 2, none⟩ = some (.func (.func 103) #[] #[]))) (by kernel_rfl) ?_ (fun hHeld => ?_)
    · first | exact hHeld | exact ⟨a0, a1, a2, a3, d0, d1, d2, t1⟩ | exact ⟨c9.a.c0, c9.a.c1, c9.a.c2, c9.a.c3, c9.d.c0, c9.d.c1, c9.d.c2, t9⟩ | exact ⟨y9.a.c0, y9.a.c1, y9.a.c2, y9.a.c3, y9.d.c0, y9.d.c1, y9.d.c2, (cell3_far (by simp)).trans t9⟩
    refine wpAnyH_take (i := 0) (v := ?_) rfl (by kernel_rfl) (by kernel_rfl) (by kernel_rfl) (fun _ _ _ h => h) (Or.inl ⟨by rfl, ?_⟩) hHeld ?_
    rotate_left
    · (intro w hSw; (try dsimp only at hSw); go_simp; try with_reducible rfl)
    try simp only [Act.put, List.getElem_toArray, List.getElem_cons_zero, List.setIfInBounds_toArray, List.set_cons_zero, List.set_cons_succ]
    refine wpAnyH_take (i := 1) (v := ?_) rfl (by kernel_rfl) (by kernel_rfl) (by kernel_rfl) (fun _ _ _ h => h) (Or.inl ⟨by rfl, ?_⟩) hHeld ?_
    rotate_left
    · (intro w hSw; (try dsimp only at hSw); go_simp; try with_reducible rfl)
    try simp only [Act.put, List.getElem_toArray, List.getElem_cons_zero, List.getElem_cons_succ, List.setIfInBounds_toArray, List.set_cons_zero, List.set_cons_succ]
    refine wpAnyH_take (i := 2) (v := ?_) rfl (by kernel_rfl) (by kernel_rfl) (by kernel_rfl) (fun _ _ _ h => h) (Or.inl ⟨by rfl, ?_⟩) hHeld ?_
    rotate_left
    · (intro w hSw; (try dsimp only at hSw); go_simp; try with_reducible rfl)
    try simp only [Act.put, List.getElem_toArray, List.getElem_cons_zero, List.getElem_cons_succ, List.setIfInBounds_toArray, List.set_cons_zero, List.set_cons_succ]
    refine wpAnyH_take (i := 3) (v := ?_) rfl (by kernel_rfl) (by kernel_rfl) (by kernel_rfl) (fun _ _ _ h => h) (Or.inl ⟨by rfl, ?_⟩) hHeld ?_
    rotate_left
    · (intro w hSw; (try dsimp only at hSw); go_simp; try with_reducible rfl)
    try simp only [Act.put, List.getElem_toArray, List.getElem_cons_zero, List.getElem_cons_succ, List.setIfInBounds_toArray, List.set_cons_zero, List.set_cons_succ]
    refine wpAnyH_take (i := 4) (v := ?_) rfl (by kernel_rfl) (by kernel_rfl) (by kernel_rfl) (fun _ _ _ h => h) (Or.inl ⟨by rfl, ?_⟩) hHeld ?_
    rotate_left
    · (intro w hSw; (try dsimp only at hSw); go_simp; try with_reducible rfl)
    try simp only [Act.put, List.getElem_toArray, List.getElem_cons_zero, List.getElem_cons_succ, List.setIfInBounds_toArray, List.set_cons_zero, List.set_cons_succ]
    refine wpAnyH_take (i := 5) (v := ?_) rfl (by kernel_rfl) (by kernel_rfl) (by kernel_rfl) (fun _ _ _ h => h) (Or.inl ⟨by rfl, ?_⟩) hHeld ?_
    rotate_left
    · (intro w hSw; (try dsimp only at hSw); go_simp; try with_reducible rfl)
    try simp only [Act.put, List.getElem_toArray, List.getElem_cons_zero, List.getElem_cons_succ, List.setIfInBounds_toArray, List.set_cons_zero, List.set_cons_succ]
    refine wpAnyH_ready (rs := [6]) (by kernel_rfl) (by simp) ?_
    refine AllReadyH.cons rfl (fun K hK => ?_) AllReadyH.nil
    go_simp
    (with_reducible refine (cc _ (bx.b.trans ((Below.refl _ _).drew.mono bx.b.size))).mono ?_)
    rintro e w9 ⟨v9, rfl, hN9, hb90⟩
    obtain ⟨A2, n2, C2, B2, m2, D2, rfl, -, -⟩ := hN9.form
    have hb9 : Below w4.heap.size w4 w9 := (Below.refl _ _).drew.trans (hb90.mono (Nat.le_refl _))
    have c9 := bx.below hb9
    have t9 := (hb9.cell (p := ⟨w.heap.size + 1 + 1 + 1, 2, none⟩) (cell_lt t1)).trans t1
    have x9 := c9.r.c0
    have x91 := c9.r.c1
    have x92 := c9.r.c2
    have r9 := c9.r.fr (o := 0)
    have r91 := c9.r.fr (o := 1)
    have r92 := c9.r.fr (o := 2)
    have hP := Lib.hid (hN9.setBox3 c9.r (.slice A2 n2 C2) (.slice B2 m2 D2) (.bool rd.dead))
    have hK9 := Lib.hid (below_set3 (g := w.heap.size + 1 + 1) (o1 := 0) (o2 := 1) (o3 := 2) (x := .slice A2 n2 C2) (y := .slice B2 m2 D2) (z := .bool rd.dead) c9.b (by omega))
    have y9 : Boxes3 w (((w9.setCell ⟨w.heap.size + 1 + 1, 0, none⟩ (.slice A2 n2 C2)).setCell ⟨w.heap.size + 1 + 1, 1, none⟩ (.slice B2 m2 D2)).setCell ⟨w.heap.size + 1 + 1, 2, none⟩ (.bool rd.dead)) ⟨dk, 2, at_, dat⟩ A' L C' A n C B m D false := c9.three _ _ _
    clear hb90 hb9
    go_wp2_with fail
    refine hK.out _ _ ?_ (fun hHeld2 => ?_)
    · first | exact hHeld | exact ⟨a0, a1, a2, a3, d0, d1, d2, t1⟩ | exact ⟨c9.a.c0, c9.a.c1, c9.a.c2, c9.a.c3, c9.d.c0, c9.d.c1, c9.d.c2, t9⟩ | exact ⟨y9.a.c0, y9.a.c1, y9.a.c2, y9.a.c3, y9.d.c0, y9.d.c1, y9.d.c2, (cell3_far (by simp)).trans t9⟩
    clear hK K hHeld
    have hHeld := hHeld2
    clear hHeld2
    try simp only [Act.put, List.setIfInBounds_toArray, List.set_cons_zero, List.set_cons_succ]
    refine wpAnyH_take (i := 7) (v := ?_) rfl (by kernel_rfl) (by kernel_rfl) (by kernel_rfl) (fun _ _ _ h => h) (Or.inl ⟨by rfl, ?_⟩) hHeld ?_
    rotate_left
    · (intro w hSw; (try dsimp only at hSw); go_simp; try with_reducible rfl)
    try simp only [Act.put, List.getElem_toArray, List.getElem_cons_zero, List.getElem_cons_succ, List.setIfInBounds_toArray, List.set_cons_zero, List.set_cons_succ]
    refine wpAnyH_take (i := 8) (v := ?_) rfl (by kernel_rfl) (by kernel_rfl) (by kernel_rfl) (fun _ _ _ h => h) (Or.inl ⟨by rfl, ?_⟩) hHeld ?_
    rotate_left
    · (intro w hSw; (try dsimp only at hSw); go_simp; try with_reducible rfl)
    try simp only [Act.put, List.getElem_toArray, List.getElem_cons_zero, List.getElem_cons_succ, List.setIfInBounds_toArray, List.set_cons_zero, List.set_cons_succ]
    refine wpAnyH_ready (rs := [9]) (by kernel_rfl) (by simp) ?_
    refine AllReadyH.cons rfl (fun K hK => ?_) AllReadyH.nil
    go_simp
    refine hK.out _ _ ?_ (fun hHeld2 => ?_)
    · first | exact hHeld | exact ⟨a0, a1, a2, a3, d0, d1, d2, t1⟩ | exact ⟨c9.a.c0, c9.a.c1, c9.a.c2, c9.a.c3, c9.d.c0, c9.d.c1, c9.d.c2, t9⟩ | exact ⟨y9.a.c0, y9.a.c1, y9.a.c2, y9.a.c3, y9.d.c0, y9.d.c1, y9.d.c2, (cell3_far (by simp)).trans t9⟩
    clear hK K hHeld
    have hHeld := hHeld2
    clear hHeld2
    try simp only [Act.put, List.setIfInBounds_toArray, List.set_cons_zero, List.set_cons_succ]
    refine wpAnyH_ready (rs := [10]) (by kernel_rfl) (by simp) ?_
    refine AllReadyH.cons rfl (fun K hK => ?_) AllReadyH.nil
    go_simp
    refine hK.out _ _ ?_ (fun hHeld2 => ?_)
    · first | exact hHeld | exact ⟨a0, a1, a2, a3, d0, d1, d2, t1⟩ | exact ⟨c9.a.c0, c9.a.c1, c9.a.c2, c9.a.c3, c9.d.c0, c9.d.c1, c9.d.c2, t9⟩ | exact ⟨y9.a.c0, y9.a.c1, y9.a.c2, y9.a.c3, y9.d.c0, y9.d.c1, y9.d.c2, (cell3_far (by simp)).trans t9⟩
    clear hK K hHeld
    have hHeld := hHeld2
    clear hHeld2
    try simp only [Act.put, List.setIfInBounds_toArray, List.set_cons_zero, List.set_cons_succ]
    refine wpAnyH_done (by kernel_rfl) ?_ _
    clear hHeld
    go_wp2_with fail
    go_meet
    case rel => exact ⟨rfl, A2, n2, C2, B2, m2, D2, hP.out.2, (hP.out.1).mono bx.b.size, hK9.out⟩
  case rest =>
    obtain ⟨rfl, A2, n2, C2, B2, m2, D2, x3, hN, hB⟩ := hcut
    have f0 := x3.c0
    have f1 := x3.c1
    have f2 := x3.c2
    clear x3 a0 a1 a2 a3 d0 d1 d2 t1 bx BX TB cc
    go_wp2
    exact bodyPost_ret (v := .tuple #[.agg #[.slice A2 n2 C2, .slice B2 m2 D2, .bool rd.dead], .int .i64 er]) (by simp [results, Try.results86, go_sem, f0, f1, f2]) rfl ⟨_, rfl, hN, hB⟩
set_option maxRecDepth 100000 in
set_option maxHeartbeats 4000000 in
theorem do_3 (dk at_ : Int) (dat : List Int) (A' : Option Addr) (L C' : Nat) (v : Value) (d : Dev) (w : World) (hok : ActOk w A' L ⟨dk, 3, at_, dat⟩) (h : DevV w v d) (hdd : d.dead = false) :
    Calls Try.prog 86 #[.agg #[.int .i64 dk, .int .u8 3, .int .i64 at_, .slice A' L C'], v] w (DevIs w (flushE d) (resD (flushE d) (flushD d))) := by
  have hv := h
  obtain ⟨A, n, C, hs, B, m, D, ht, rfl, h1, h2⟩ := h
  have bx := Boxes.new w ⟨dk, 3, at_, dat⟩ A' L C' A n C B m D d.dead
  have cc := fun W (hW : Below w.heap.size w W) => deed_flush ⟨dk, 3, at_, dat⟩ A' L C' _ d W (hok.below hW (Nat.le_refl _)) (hv.below hW (Nat.le_refl _))
  simp only at cc bx
  rw [hdd] at bx cc ⊢
  generalize (resD (flushE d) (flushD d) : Dev) = rd at *
  generalize (flushE d : Int) = er at *
  clear hv h1 h2 hok hdd
  have a0 := bx.a.c0
  have a1 := bx.a.c1
  have a2 := bx.a.c2
  have a3 := bx.a.c3
  have d2 := bx.d.c2
  simp only at a0 a1 a2 a3
  have hS := heap_alloc_new (((w.alloc (.cells #[.int .i64 dk, .int .u8 3, .int .i64 at_, .slice A' L C'] 109)).alloc (.cells #[.slice A n C, .slice B m D, .bool false] 25)).alloc (.cells #[.slice none 0 0, .slice none 0 0, .bool false] 25)) (.cells #[.nilFunc, .func (.func 102) #[] #[], .func (.func 103) #[] #[], .func (.func 104) #[] #[]] 124)
  simp only [World.size_alloc] at hS
  have hb4 : Below (((w.alloc (.cells #[.int .i64 dk, .int .u8 3, .int .i64 at_, .slice A' L C'] 109)).alloc (.cells #[.slice A n C, .slice B m D, .bool false] 25)).alloc (.cells #[.slice none 0 0, .slice none 0 0, .bool false] 25)).heap.size (((w.alloc (.cells #[.int .i64 dk, .int .u8 3, .int .i64 at_, .slice A' L C'] 109)).alloc (.cells #[.slice A n C, .slice B m D, .bool false] 25)).alloc (.cells #[.slice none 0 0, .slice none 0 0, .bool false] 25)) ((((w.alloc (.cells #[.int .i64 dk, .int .u8 3, .int .i64 at_, .slice A' L C'] 109)).alloc (.cells #[.slice A n C, .slice B m D, .bool false] 25)).alloc (.cells #[.slice none 0 0, .slice none 0 0, .bool false] 25)).alloc (.cells #[.nilFunc, .func (.func 102) #[] #[], .func (.func 103) #[] #[], .func (.func 104) #[] #[]] 124)) := (Below.refl _ _).alloc (Nat.le_refl _) _
  have BX := Lib.hid (bx.below hb4)
  have TB := Lib.hid (cell_of_row _ _ 3 _ _ _ hS)
  clear bx hb4 hS
  go_enter Try.func86, Try.ntmps86
  go_upto_region 4 with fail
  clear a0 a1 a2 a3 d2
  generalize ((((w.alloc (.cells #[.int .i64 dk, .int .u8 3, .int .i64 at_, .slice A' L C'] 109)).alloc (.cells #[.slice A n C, .slice B m D, .bool false] 25)).alloc (.cells #[.slice none 0 0, .slice none 0 0, .bool false] 25)).alloc (.cells #[.nilFunc, .func (.func 102) #[] #[], .func (.func 103) #[] #[], .func (.func 104) #[] #[]] 124)) = w4 at *
  have bx := BX.out
  have a0 := bx.a.c0
  have a1 := bx.a.c1
  have a2 := bx.a.c2
  have a3 := bx.a.c3
  have d0 := bx.d.c0
  have d1 := bx.d.c1
  have d2 := bx.d.c2
  have t1 := TB.out
  simp at t1
  simp only at a0 a1 a2 a3
  go_cut [5] (fun s5 wx => s5 = .int .i64 er ∧ ∃ (A2 : Option Addr) (n2 C2 : Nat) (B2 : Option Addr) (m2 D2 : Nat), BoxD wx (w.heap.size + 1 + 1) (.slice A2 n2 C2) (.slice B2 m2 D2) (.bool rd.dead) ∧ DevN w.heap.size wx (.agg #[.slice A2 n2 C2, .slice B2 m2 D2, .bool rd.dead]) rd ∧ Below w.heap.size w wx)
  case first =>
    refine wp_region_held_drew (S := (fun W => W.cell? ⟨w.heap.size, 0, none⟩ = some (.int .i64 dk) ∧ W.cell? ⟨w.heap.size, 1, none⟩ = some (.int .u8 3) ∧ W.cell? ⟨w.heap.size, 2, none⟩ = some (.int .i64 at_) ∧ W.cell? ⟨w.heap.size, 3, none⟩ = some (.slice A' L C') ∧ W.cell? ⟨w.heap.size + 1, 0, none⟩ = some (.slice A n C) ∧ W.cell? ⟨w.heap.size + 1, 1, none⟩ = some (.slice B m D) ∧ W.cell? ⟨w.heap.size + 1, 2, none⟩ = some (.bool false) ∧ W.cell? ⟨w.heap.size + 1 + 1 + 1, 3, none⟩ = some (.func (.func 104) #[] #[]))) (by kernel_rfl) ?_ (fun hHeld => ?_)
    · first | exact hHeld | exact ⟨a0, a1, a2, a3, d0, d1, d2, t1⟩ | exact ⟨c9.a.c0, c9.a.c1, c9.a.c2, c9.a.c3, c9.d.c0, c9.d.c1, c9.d.c2, t9⟩ | exact ⟨y9.a.c0, y9.a.c1, y9.a.c2, y9.a.c3, y9.d.c0, y9.d.c1, y9.d.c2, (cell3_far (by simp)).trans t9⟩
    refine wpAnyH_take (i := 0) (v := ?_) rfl (by kernel_rfl) (by kernel_rfl) (by kernel_rfl) (fun _ _ _ h => h) (Or.inl ⟨by rfl, ?_⟩) hHeld ?_
    rotate_left
    · (intro w hSw; (try dsimp only at hSw); go_simp; try with_reducible rfl)
    try simp only [Act.put, List.getElem_toArray, List.getElem_cons_zero, List.setIfInBounds_toArray, List.set_cons_zero, List.set_cons_succ]
    refine wpAnyH_take (i := 1) (v := ?_) rfl (by kernel_rfl) (by kernel_rfl) (by kernel_rfl) (fun _ _ _ h => h) (Or.inl ⟨by rfl, ?_⟩) hHeld ?_
    rotate_left
    · (intro w hSw; (try dsimp only at hSw); go_simp; try with_reducible rfl)
    try simp only [Act.put, List.getElem_toArray, List.getElem_cons_zero, List.getElem_cons_succ, List.setIfInBounds_toArray, List.set_cons_zero, List.set_cons_succ]
    refine wpAnyH_take (i := 2) (v := ?_) rfl (by kernel_rfl) (by kernel_rfl) (by kernel_rfl) (fun _ _ _ h => h) (Or.inl ⟨by rfl, ?_⟩) hHeld ?_
    rotate_left
    · (intro w hSw; (try dsimp only at hSw); go_simp; try with_reducible rfl)
    try simp only [Act.put, List.getElem_toArray, List.getElem_cons_zero, List.getElem_cons_succ, List.setIfInBounds_toArray, List.set_cons_zero, List.set_cons_succ]
    refine wpAnyH_take (i := 3) (v := ?_) rfl (by kernel_rfl) (by kernel_rfl) (by kernel_rfl) (fun _ _ _ h => h) (Or.inl ⟨by rfl, ?_⟩) hHeld ?_
    rotate_left
    · (intro w hSw; (try dsimp only at hSw); go_simp; try with_reducible rfl)
    try simp only [Act.put, List.getElem_toArray, List.getElem_cons_zero, List.getElem_cons_succ, List.setIfInBounds_toArray, List.set_cons_zero, List.set_cons_succ]
    refine wpAnyH_take (i := 4) (v := ?_) rfl (by kernel_rfl) (by kernel_rfl) (by kernel_rfl) (fun _ _ _ h => h) (Or.inl ⟨by rfl, ?_⟩) hHeld ?_
    rotate_left
    · (intro w hSw; (try dsimp only at hSw); go_simp; try with_reducible rfl)
    try simp only [Act.put, List.getElem_toArray, List.getElem_cons_zero, List.getElem_cons_succ, List.setIfInBounds_toArray, List.set_cons_zero, List.set_cons_succ]
    refine wpAnyH_take (i := 5) (v := ?_) rfl (by kernel_rfl) (by kernel_rfl) (by kernel_rfl) (fun _ _ _ h => h) (Or.inl ⟨by rfl, ?_⟩) hHeld ?_
    rotate_left
    · (intro w hSw; (try dsimp only at hSw); go_simp; try with_reducible rfl)
    try simp only [Act.put, List.getElem_toArray, List.getElem_cons_zero, List.getElem_cons_succ, List.setIfInBounds_toArray, List.set_cons_zero, List.set_cons_succ]
    refine wpAnyH_ready (rs := [6]) (by kernel_rfl) (by simp) ?_
    refine AllReadyH.cons rfl (fun K hK => ?_) AllReadyH.nil
    go_simp
    (with_reducible refine (cc _ (bx.b.trans ((Below.refl _ _).drew.mono bx.b.size))).mono ?_)
    rintro e w9 ⟨v9, rfl, hN9, hb90⟩
    obtain ⟨A2, n2, C2, B2, m2, D2, rfl, -, -⟩ := hN9.form
    have hb9 : Below w4.heap.size w4 w9 := (Below.refl _ _).drew.trans (hb90.mono (Nat.le_refl _))
    have c9 := bx.below hb9
    have t9 := (hb9.cell (p := ⟨w.heap.size + 1 + 1 + 1, 3, none⟩) (cell_lt t1)).trans t1
    have x9 := c9.r.c0
    have x91 := c9.r.c1
    have x92 := c9.r.c2
    have r9 := c9.r.fr (o := 0)
    have r91 := c9.r.fr (o := 1)
    have r92 := c9.r.fr (o := 2)
    have hP := Lib.hid (hN9.setBox3 c9.r (.slice A2 n2 C2) (.slice B2 m2 D2) (.bool rd.dead))
    have hK9 := Lib.hid (below_set3 (g := w.heap.size + 1 + 1) (o1 := 0) (o2 := 1) (o3 := 2) (x := .slice A2 n2 C2) (y := .slice B2 m2 D2) (z := .bool rd.dead) c9.b (by omega))
    have y9 : Boxes3 w (((w9.setCell ⟨w.heap.size + 1 + 1, 0, none⟩ (.slice A2 n2 C2)).setCell ⟨w.heap.size + 1 + 1, 1, none⟩ (.slice B2 m2 D2)).setCell ⟨w.heap.size + 1 + 1, 2, none⟩ (.bool rd.dead)) ⟨dk, 3, at_, dat⟩ A' L C' A n C B m D false := c9.three _ _ _
    clear hb90 hb9
    go_wp2_with fail
    refine hK.out _ _ ?_ (fun hHeld2 => ?_)
    · first | exact hHeld | exact ⟨a0, a1, a2, a3, d0, d1, d2, t1⟩ | exact ⟨c9.a.c0, c9.a.c1, c9.a.c2, c9.a.c3, c9.d.c0, c9.d.c1, c9.d.c2, t9⟩ | exact ⟨y9.a.c0, y9.a.c1, y9.a.c2, y9.a.c3, y9.d.c0, y9.d.c1, y9.d.c2, (cell3_far (by simp)).trans t9⟩
    clear hK K hHeld
    have hHeld := hHeld2
    clear hHeld2
    try simp only [Act.put, List.setIfInBounds_toArray, List.set_cons_zero, List.set_cons_succ]
    refine wpAnyH_take (i := 7) (v := ?_) rfl (by kernel_rfl) (by kernel_rfl) (by kernel_rfl) (fun _ _ _ h => h) (Or.inl ⟨by rfl, ?_⟩) hHeld ?_
    rotate_left
    · (intro w hSw; (try dsimp only at hSw); go_simp; try with_reducible rfl)
    try simp only [Act.put, List.getElem_toArray, List.getElem_cons_zero, List.getElem_cons_succ, List.setIfInBounds_toArray, List.set_cons_zero, List.set_cons_succ]
    refine wpAnyH_take (i := 8) (v := ?_) rfl (by kernel_rfl) (by kernel_rfl) (by kernel_rfl) (fun _ _ _ h => h) (Or.inl ⟨by rfl, ?_⟩) hHeld ?_
    rotate_left
    · (intro w hSw; (try dsimp only at hSw); go_simp; try with_reducible rfl)
    try simp only [Act.put, List.getElem_toArray, List.getElem_cons_zero, List.getElem_cons_succ, List.setIfInBounds_toArray, List.set_cons_zero, List.set_cons_succ]
    refine wpAnyH_ready (rs := [9]) (by kernel_rfl) (by simp) ?_
    refine AllReadyH.cons rfl (fun K hK => ?_) AllReadyH.nil
    go_simp
    refine hK.out _ _ ?_ (fun hHeld2 => ?_)
    · first | exact hHeld | exact ⟨a0, a1, a2, a3, d0, d1, d2, t1⟩ | exact ⟨c9.a.c0, c9.a.c1, c9.a.c2, c9.a.c3, c9.d.c0, c9.d.c1, c9.d.c2, t9⟩ | exact ⟨y9.a.c0, y9.a.c1, y9.a.c2, y9.a.c3, y9.d.c0, y9.d.c1, y9.d.c2, (cell3_far (by simp)).trans t9⟩
    clear hK K hHeld
    have hHeld := hHeld2
    clear hHeld2
    try simp only [Act.put, List.setIfInBounds_toArray, List.set_cons_zero, List.set_cons_succ]
    refine wpAnyH_ready (rs := [10]) (by kernel_rfl) (by simp) ?_
    refine AllReadyH.cons rfl (fun K hK => ?_) AllReadyH.nil
    go_simp
    refine hK.out _ _ ?_ (fun hHeld2 => ?_)
    · first | exact hHeld | exact ⟨a0, a1, a2, a3, d0, d1, d2, t1⟩ | exact ⟨c9.a.c0, c9.a.c1, c9.a.c2, c9.a.c3, c9.d.c0, c9.d.c1, c9.d.c2, t9⟩ | exact ⟨y9.a.c0, y9.a.c1, y9.a.c2, y9.a.c3, y9.d.c0, y9.d.c1, y9.d.c2, (cell3_far (by simp)).trans t9⟩
    clear hK K hHeld
    have hHeld := hHeld2
    clear hHeld2
    try simp only [Act.put, List.setIfInBounds_toArray, List.set_cons_zero, List.set_cons_succ]
    refine wpAnyH_done (by kernel_rfl) ?_ _
    clear hHeld
    go_wp2_with fail
    go_meet
    case rel => exact ⟨rfl, A2, n2, C2, B2, m2, D2, hP.out.2, (hP.out.1).mono bx.b.size, hK9.out⟩
  case rest =>
    obtain ⟨rfl, A2, n2, C2, B2, m2, D2, x3, hN, hB⟩ := hcut
    have f0 := x3.c0
    have f1 := x3.c1
    have f2 := x3.c2
    clear x3 a0 a1 a2 a3 d0 d1 d2 t1 bx BX TB cc
    go_wp2
    exact bodyPost_ret (v := .tuple #[.agg #[.slice A2 n2 C2, .slice B2 m2 D2, .bool rd.dead], .int .i64 er]) (by simp [results, Try.results86, go_sem, f0, f1, f2]) rfl ⟨_, rfl, hN, hB⟩
theorem do_calls (x : Act5) (A' : Option Addr) (L C' : Nat) (v : Value) (d : Dev) (w : World) (hok : ActOk w A' L x) (h : DevV w v d) (hk : x.kind = 1 ∨ x.kind = 2 ∨ x.kind = 3) :
    Calls Try.prog 86 #[.agg #[.int .i64 x.disk, .int .u8 x.kind, .int .i64 x.at_, .slice A' L C'], v] w (DoIs w v x d) := by
  by_cases hdd : d.dead = true
  · obtain ⟨A, n, C, hs, B, m, D, ht, rfl, h1, h2⟩ := h
    have cc := do_dead x A' L C' A n C B m D w
    rw [← hdd] at cc
    exact cc.mono fun e w' q => .inl ⟨hdd, q.1, q.2⟩
  · have hd : d.dead = false := by cases q : d.dead; rfl; exact absurd q hdd
    obtain ⟨dk, kd, at_, dat⟩ := x
    simp only at hk
    rcases hk with rfl | rfl | rfl
    · exact (do_1 dk at_ dat A' L C' v d w hok h hd).mono fun e w' q => .inr ⟨hd, q⟩
    · exact (do_2 dk at_ dat A' L C' v d w hok h hd).mono fun e w' q => .inr ⟨hd, q⟩
    · exact (do_3 dk at_ dat A' L C' v d w hok h hd).mono fun e w' q => .inr ⟨hd, q⟩
end Go.Proofs.Ytldgpkaecfgagaa
