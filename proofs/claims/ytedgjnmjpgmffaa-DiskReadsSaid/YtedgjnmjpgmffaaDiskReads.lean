/- freeboardlaw04.DiskReads: for every input the law answers true, and what is handed in reads as it did. Conditions: none. -/
import Derived.Test.YtedgjnmjpgmffaaDevOpen
import Derived.Test.YtedgjnmjpgmffaaDiskGone
import Derived.Deep.DeepCutAuto
import Derived.Deep.RegionHeld3
namespace Go.Proofs.Ytedgjnmjpgmffaa
open Go.ChangeShapes Go.WideShapes Go.ChangeAt Go.RowKit PolyM PackM FoldM DevM
/-- What turns no row, no header's bytes and no box turns no device. -/
theorem DevN.grown {K : Nat} {w w' : World} {v : Value} {d : Dev} {r : Option Nat} (h : DevN K w v d) (hg : w.grownBy w' r) (hr : ∀ (b : Nat) (cs : Array Value) (t : TypeId), w.heap[b]? = some (.cells cs t (0, 0)) → t ≠ 51 → some b ≠ r) : DevN K w' v d := by
  obtain ⟨A, n, C, hs, B, m, D, ht, e, o1, o2, h1, h2, g1, g2, m1, m2⟩ := h
  have kind : ∀ (b : Nat) (cs : Array Value), w.heap[b]? = some (.cells cs 5 (0, 0)) → some b ≠ r := fun b cs q => hr b cs _ q (by decide)
  refine ⟨A, n, C, hs, B, m, D, ht, e, own_grown o1 hg fun q hq => ?_, own_grown o2 hg fun q hq => ?_, h1.grownH hg (g1.off kind), h2.grownH hg (g2.off kind), g1.grown hg kind, g2.grown hg kind, m1, m2⟩
  · obtain ⟨_, ⟨q1, _⟩ | ⟨g', cap, cur, q1, _, hh, _⟩⟩ := o1
    · rw [q1] at hq; simp [Value.ownBlock] at hq
    · rw [q1] at hq; simp only [Value.ownBlock, Option.some.injEq] at hq; subst hq
      exact hr _ _ _ hh (by decide)
  · obtain ⟨_, ⟨q1, _⟩ | ⟨g', cap, cur, q1, _, hh, _⟩⟩ := o2
    · rw [q1] at hq; simp [Value.ownBlock] at hq
    · rw [q1] at hq; simp only [Value.ownBlock, Option.some.injEq] at hq; subst hq
      exact hr _ _ _ hh (by decide)
def Arr (w : World) (b : Nat) (l : List Int) : Prop := w.heap[b]? = some (.cells (cells l) 51 (0, 0))
theorem Arr.below {w w' : World} {b : Nat} {l : List Int} (h : Arr w b l) (hb : Below w.heap.size w w') : Arr w' b l := (hb.block _ (heap_lt h)).trans h
theorem Arr.cell {w : World} {b k : Nat} {l : List Int} (h : Arr w b l) (hk : k < l.length) : w.cell? ⟨b, k, none⟩ = some (.int .u8 (l.getD k 0)) := by rw [cell_of_row _ _ _ _ _ _ h, cells_getD hk]
theorem Arr.fr {w : World} {b k : Nat} {l : List Int} (h : Arr w b l) : w.frozen? ⟨b, k, none⟩ = false := frozen_of_row _ _ _ _ _ h
theorem Arr.other {w : World} {b : Nat} {l : List Int} (h : Arr w b l) {p : Addr} (hp : b ≠ p.block) (u : Value) : Arr (w.setCell p u) b l := by
  unfold Arr at *
  rw [Below.heap_setCell _ _ _ _ hp]; exact h
theorem Arr.set {w : World} {b k : Nat} {l : List Int} (h : Arr w b l) (z : Int) : Arr (w.setCell ⟨b, k, none⟩ (.int .u8 z)) b (l.set k z) := by
  unfold Arr at *
  rw [heap_setCell_same _ _ _ _ _ _ h, cells_set]
theorem DevN.setArr {K b k : Nat} {w : World} {v u : Value} {d : Dev} {l : List Int} (h : DevN K w v d) (ha : Arr w b l) : DevN K (w.setCell ⟨b, k, none⟩ u) v d :=
  h.grown (grown_set _ _ _ _) fun b' cs t hb ht e => by
    injection e with e
    subst e
    rw [show w.heap[b']? = _ from ha] at hb
    injection hb with hb
    injection hb with _ q _
    exact ht q.symm
/-- What holds when i steps are done: the device's box b, and the two tables behind it. -/
def ReadsR (w : World) (b i : Nat) (wr : World) : Prop :=
  ∃ (dv : Dev) (now sure : List Int) (A B : Option Addr) (n C m D : Nat), BoxD wr b (.slice A n C) (.slice B m D) (.bool false) ∧ DevN w.heap.size wr (.agg #[.slice A n C, .slice B m D, .bool false]) dv ∧ Told dv now sure i ∧ Arr wr (b + 1) now ∧ Arr wr (b + 1 + 1) sure ∧ w.heap.size ≤ b ∧ Below w.heap.size w wr
/-- The device's box is set anew. -/
theorem ReadsR.boxed {w : World} {b : Nat} {W : World} {dv : Dev} {now sure : List Int} {A0 B0 A B : Option Addr} {n0 C0 m0 D0 n C m D : Nat} (x : BoxD W b (.slice A0 n0 C0) (.slice B0 m0 D0) (.bool false)) (hN : DevN w.heap.size W (.agg #[.slice A n C, .slice B m D, .bool false]) dv) (a1 : Arr W (b + 1) now) (a2 : Arr W (b + 1 + 1) sure) (hle : w.heap.size ≤ b) (hb : Below w.heap.size w W) :
    BoxD (((W.setCell ⟨b, 0, none⟩ (.slice A n C)).setCell ⟨b, 1, none⟩ (.slice B m D)).setCell ⟨b, 2, none⟩ (.bool false)) b (.slice A n C) (.slice B m D) (.bool false) ∧
      DevN w.heap.size (((W.setCell ⟨b, 0, none⟩ (.slice A n C)).setCell ⟨b, 1, none⟩ (.slice B m D)).setCell ⟨b, 2, none⟩ (.bool false)) (.agg #[.slice A n C, .slice B m D, .bool false]) dv ∧
      Arr (((W.setCell ⟨b, 0, none⟩ (.slice A n C)).setCell ⟨b, 1, none⟩ (.slice B m D)).setCell ⟨b, 2, none⟩ (.bool false)) (b + 1) now ∧ Arr (((W.setCell ⟨b, 0, none⟩ (.slice A n C)).setCell ⟨b, 1, none⟩ (.slice B m D)).setCell ⟨b, 2, none⟩ (.bool false)) (b + 1 + 1) sure ∧
      Below w.heap.size w (((W.setCell ⟨b, 0, none⟩ (.slice A n C)).setCell ⟨b, 1, none⟩ (.slice B m D)).setCell ⟨b, 2, none⟩ (.bool false)) := by
  obtain ⟨d1, x1⟩ := hN.setBox3 x (.slice A n C) (.slice B m D) (.bool false)
  have h1 : b + 1 ≠ b := by omega
  have h2 : b + 1 + 1 ≠ b := by omega
  exact ⟨x1, d1, ((a1.other h1 _).other h1 _).other h1 _, ((a2.other h2 _).other h2 _).other h2 _, ((hb.setCell (p := ⟨b, 0, none⟩) hle _).setCell (p := ⟨b, 1, none⟩) hle _).setCell (p := ⟨b, 2, none⟩) hle _⟩
theorem list4 {l : List Int} (h : l.length = 4) : ∃ a b c d, l = [a, b, c, d] := by
  match l, h with
  | [a, b, c, d], _ => exact ⟨a, b, c, d, rfl⟩
theorem held_cell {w0 W : World} {p : Addr} {v : Value} (h : w0.cell? p = some v) (hb : Below w0.heap.size w0 W) : W.cell? p = some v := (hb.cell (cell_lt h)).trans h
theorem told_in {l : List Int} {k : Nat} (h : ∀ z ∈ l, 0 ≤ z ∧ z ≤ 255) (hk : k < l.length) : 0 ≤ l.getD k 0 ∧ l.getD k 0 ≤ 255 := by
  rw [List.getD_eq_getElem?_getD, List.getElem?_eq_getElem hk]
  exact h _ (List.getElem_mem hk)
theorem reads_told {K : Nat} {w W : World} {v : Value} {d : Dev} {now sure : List Int} {i k : Nat} (hN : DevN K w v d) (hT : Told d now sure i) (hk : k < 4) (hW : Below w.heap.size w W) :
    Calls Try.prog 33 #[v, .int .i64 k, .int .u8 (now.getD k 0)] W fun e w' => e = .returned (.bool true) ∧ Below W.heap.size W w' := by
  have hx := told_in hT.2.2.2.2.2.2.1 (k := k) (by rw [hT.2.2.2.2.1]; exact hk)
  have := reads_calls v d k (now.getD k 0) W (hN.below hW).devV hx.1 hx.2
  rwa [decide_eq_true ⟨hT.use0 hk, (hT.2.2.2.2.2.2.2.2 k hk).1⟩] at this
theorem lasts_told {K : Nat} {w W : World} {v : Value} {d : Dev} {now sure : List Int} {i k : Nat} (hN : DevN K w v d) (hT : Told d now sure i) (hk : k < 4) (hW : Below w.heap.size w W) :
    Calls Try.prog 34 #[v, .int .i64 k, .int .u8 (sure.getD k 0)] W fun e w' => e = .returned (.bool true) ∧ Below W.heap.size W w' := by
  have hx := told_in hT.2.2.2.2.2.2.2.1 (k := k) (by rw [hT.2.2.2.2.2.1]; exact hk)
  have := lasts_calls v d k (sure.getD k 0) W (hN.below hW).devV hx.1 hx.2
  rwa [decide_eq_true ⟨hT.use0 hk, (hT.2.2.2.2.2.2.2.2 k hk).2⟩] at this
set_option maxHeartbeats 32000000 in
set_option maxRecDepth 100000 in
theorem diskReads_walk (w : World) (a : Option Addr) (n c : Nat) (l : List (Int × Int × Int)) (ho : OpsV w a n l) (_hnc : n ≤ c) (dies : Bool) :
    Calls Try.prog 6 #[.slice a n c, .bool dies] w fun e w' => e = .returned (.bool true) ∧ Below w.heap.size w w' := by
  have ca := alive_calls w
  have hm := ho.2.1
  by_cases hn : 100 < n
  · have hn1 : (100 : Int) < (n : Int) := by omega
    clear hn
    go_enter Try.func6, Try.ntmps6
    go_wp2_with fail
    (with_reducible refine ca.mono ?_)
    rintro e w1 ⟨rfl, hb1⟩
    go_wp2
    go_ret
    exact ⟨rfl, hb1⟩
  · have hn1 : (n : Int) ≤ (100 : Int) := by omega
    have c4 : ∀ W, Calls Try.prog 9 #[.int .i64 4] W (DevIs W 0 ⟨List.replicate 4 [], [], false⟩) := fun W => new_yes 4 W (by omega) (by omega)
    have hH := Lib.hid ho
    clear hn ho
    go_enter Try.func6, Try.ntmps6
    go_wp2_with fail
    (with_reducible refine ca.mono ?_)
    rintro e w1 ⟨rfl, hb1⟩
    go_wp2_with fail
    (with_reducible refine (c4 _).mono ?_)
    rintro e w2 ⟨v2, rfl, hN2, hb2⟩
    obtain ⟨A2, n2, C2, B2, m2, D2, rfl, hm2⟩ := hN2.form2 rfl
    clear hm2 ca c4
    have hbw := hb1.trans (hb2.mono hb1.size)
    have hal : Below w2.heap.size w2 (((w2.alloc (.cells #[.slice A2 n2 C2, .slice B2 m2 D2, .bool false] 25)).alloc (.cells #[.int .u8 0, .int .u8 0, .int .u8 0, .int .u8 0] 51)).alloc (.cells #[.int .u8 0, .int .u8 0, .int .u8 0, .int .u8 0] 51)) := (((Below.refl _ _).alloc (Nat.le_refl _) _).alloc (by simp) _).alloc (by simp; omega) _
    have R0 : Hid (ReadsR w w2.heap.size 0 (((w2.alloc (.cells #[.slice A2 n2 C2, .slice B2 m2 D2, .bool false] 25)).alloc (.cells #[.int .u8 0, .int .u8 0, .int .u8 0, .int .u8 0] 51)).alloc (.cells #[.int .u8 0, .int .u8 0, .int .u8 0, .int .u8 0] 51))) := by
      refine Lib.hid ⟨_, _, _, A2, B2, n2, C2, m2, D2, ((BoxD.new _ _ _ _).alloc _).alloc _, (hN2.mono hb1.size).below hal, Told.start, ?_, ?_, hbw.size, hbw.trans (hal.mono hbw.size)⟩
      · show (World.alloc _ _).heap[_]? = _
        rw [Below.heap_alloc _ _ _ (by simp)]
        have := heap_alloc_new (w2.alloc (.cells #[.slice A2 n2 C2, .slice B2 m2 D2, .bool false] 25)) (.cells #[.int .u8 0, .int .u8 0, .int .u8 0, .int .u8 0] 51)
        rw [World.size_alloc] at this
        exact this
      · have := heap_alloc_new ((w2.alloc (.cells #[.slice A2 n2 C2, .slice B2 m2 D2, .bool false] 25)).alloc (.cells #[.int .u8 0, .int .u8 0, .int .u8 0, .int .u8 0] 51)) (.cells #[.int .u8 0, .int .u8 0, .int .u8 0, .int .u8 0] 51)
        rw [World.size_alloc, World.size_alloc] at this
        exact this
    clear hN2 hb1 hb2 hbw hal
    go_wp2
    obtain ⟨b, hbE⟩ : ∃ b, b = w2.heap.size := ⟨_, rfl⟩
    rw [← hbE] at R0
    go_loopw [7, 10] (fun s7 s10 wr => ∃ i : Nat, i ≤ n ∧ s7 = .int .i64 0 ∧ s10 = .int .i64 i ∧ ReadsR w b i wr) (fun _ s10 _ => n - (intOf s10).toNat)
    case atStart => exact ⟨0, by omega, rfl, rfl, R0.out⟩
    case round =>
      obtain ⟨i, hi, rfl, rfl, dv, now, sure, A, B, n', C', m', D', xb, hN, hT, ar1, ar2, hle, hBw⟩ := hrel
      clear R0
      rw [← hbE]
      clear hbE
      by_cases hin : i < n
      · obtain ⟨bl, off, x, rfl, hlw0, hx, hz0, hz1, hz2, e0, e1, e2⟩ := hH.out.at_below hin hBw
        have hlw : bl < wr.heap.size := Nat.lt_of_lt_of_le hlw0 hBw.size
        have hne : b ≠ bl := by omega
        obtain ⟨z0, z1, z2⟩ := x
        simp only at *
        obtain ⟨q, hq4, hq⟩ : ∃ q : Nat, q < 4 ∧ z1 % 4 = (q : Int) := ⟨(z1 % 4).toNat, by omega, by omega⟩
        have hq4' : (q : Int) < 4 := by omega
        have hi1 : (i : Int) < (n : Int) := by omega
        have hk : z0 % 3 = 0 ∨ z0 % 3 = 1 ∨ z0 % 3 = 2 := by omega
        have hl1 : now.length = 4 := hT.2.2.2.2.1
        have hl2 : sure.length = 4 := hT.2.2.2.2.2.1
        have L1 := Lib.hid hl1
        have L2 := Lib.hid hl2
        have hi0 : (0 : Int) ≤ (i : Int) := by omega
        have hT' := Lib.hid hT
        have hx' := Lib.hid hx
        clear hx hT hl1 hl2
        have x0 := xb.c0
        have x1 := xb.c1
        have x2 := xb.c2
        rcases hk with hk | hk | hk
        · obtain ⟨hwE, hT1⟩ := hT'.out.put hq4 hz2 (by omega)
          have cw := fun (W : World) (g : Nat) (h : DevV W (.agg #[.slice A n' C', .slice B m' D', .bool false]) dv) (hz : Ints .u8 W (some ⟨g, 0, none⟩) 128 (fullL z2)) => write_calls _ dv q (some ⟨g, 0, none⟩) 128 128 (fullL z2) W h hz
          rw [hwE, show resD 0 ⟨dv.blocks, dv.wait ++ [((q : Int), fullL z2)], false⟩ = putD dv q (fullL z2) from rfl] at cw
          have hT1' := Lib.hid hT1
          clear hwE hT1
          go_upto_region 14 with fail
          try simp only [hq, hk]
          go_cut [7] (fun s7 wx => s7 = .int .i64 0 ∧ ∃ (A5 B5 : Option Addr) (n5 C5 m5 D5 : Nat), BoxD wx b (.slice A5 n5 C5) (.slice B5 m5 D5) (.bool false) ∧ DevN w.heap.size wx (.agg #[.slice A5 n5 C5, .slice B5 m5 D5, .bool false]) (putD dv q (fullL z2)) ∧ Arr wx (b + 1) now ∧ Arr wx (b + 1 + 1) sure ∧ Below w.heap.size w wx)
          case first =>
            refine wp_region_held_drew (S := (fun W => W.cell? ⟨bl, off + i * 3 + 2, none⟩ = some (.int .u8 z2))) (by kernel_rfl) ?_ (fun hHeld => ?_)
            · first | assumption | exact e2 | exact (hb9.cell (p := ⟨bl, off + i * 3 + 2, none⟩) hlw).trans hHeld | exact (hb8.cell (p := ⟨bl, off + i * 3 + 2, none⟩) (Nat.lt_of_lt_of_le hlw hb9'.size)).trans hHeld | exact (World.cell?_setCell_other _ _ _ _ (fun q => hne (congrArg Addr.block q))).trans ((World.cell?_setCell_other _ _ _ _ (fun q => hne (congrArg Addr.block q))).trans ((World.cell?_setCell_other _ _ _ _ (fun q => hne (congrArg Addr.block q))).trans hHeld))
            refine wpAnyH_take (i := 1) (v := ?_) rfl (by kernel_rfl) (by kernel_rfl) (by kernel_rfl) (fun _ _ _ h => h) (Or.inl ⟨by rfl, ?_⟩) (by assumption) ?_
            rotate_left
            · (intro w hSw; (try dsimp only at hSw); go_simp; try with_reducible rfl)
            try simp only [Act.put, List.setIfInBounds_toArray]
            refine wpAnyH_take (i := 2) (v := ?_) rfl (by kernel_rfl) (by kernel_rfl) (by kernel_rfl) (fun _ _ _ h => h) (Or.inl ⟨by rfl, ?_⟩) (by assumption) ?_
            rotate_left
            · (intro w hSw; (try dsimp only at hSw); go_simp; try with_reducible rfl)
            try simp only [Act.put]
            refine wpAnyH_take (i := 3) (v := ?_) rfl (by kernel_rfl) (by kernel_rfl) (by kernel_rfl) (fun _ _ _ h => h) (Or.inl ⟨by rfl, ?_⟩) (by assumption) ?_
            rotate_left
            · (intro w hSw; (try dsimp only at hSw); go_simp; try with_reducible rfl)
            try simp only [Act.put]
            refine wpAnyH_take (i := 4) (v := ?_) rfl (by kernel_rfl) (by kernel_rfl) (by kernel_rfl) (fun _ _ _ h => h) (Or.inl ⟨by rfl, ?_⟩) (by assumption) ?_
            rotate_left
            · (intro w hSw; (try dsimp only at hSw); go_simp; try with_reducible rfl)
            try simp only [Act.put]
            refine wpAnyH_take (i := 5) (v := ?_) rfl (by kernel_rfl) (by kernel_rfl) (by kernel_rfl) (fun _ _ _ h => h) (Or.inl ⟨by rfl, ?_⟩) (by assumption) ?_
            rotate_left
            · (intro w hSw; (try dsimp only at hSw); go_simp; try with_reducible rfl)
            try simp only [Act.put]
            refine wpAnyH_take (i := 6) (v := ?_) rfl (by kernel_rfl) (by kernel_rfl) (by kernel_rfl) (fun _ _ _ h => h) (Or.inl ⟨by rfl, ?_⟩) (by assumption) ?_
            rotate_left
            · (intro w hSw; (try dsimp only at hSw); go_simp; try with_reducible rfl)
            try simp only [Act.put]
            refine wpAnyH_ready (rs := [0, 7]) (by kernel_rfl) (by simp) ?_
            refine AllReadyH.cons rfl (fun K hK => ?_) (AllReadyH.cons rfl (fun K hK => ?_) AllReadyH.nil)
            ·
              go_simp
              refine hK.out _ _ ?_ (fun hHeld2 => ?_)
              · first | assumption | exact e2 | exact (hb9.cell (p := ⟨bl, off + i * 3 + 2, none⟩) hlw).trans hHeld | exact (hb8.cell (p := ⟨bl, off + i * 3 + 2, none⟩) (Nat.lt_of_lt_of_le hlw hb9'.size)).trans hHeld | exact (World.cell?_setCell_other _ _ _ _ (fun q => hne (congrArg Addr.block q))).trans ((World.cell?_setCell_other _ _ _ _ (fun q => hne (congrArg Addr.block q))).trans ((World.cell?_setCell_other _ _ _ _ (fun q => hne (congrArg Addr.block q))).trans hHeld))
              clear hK K hHeld
              have hHeld := hHeld2
              clear hHeld2
              try simp only [Act.put, List.setIfInBounds_toArray, List.set_cons_zero, List.set_cons_succ]
              refine wpAnyH_ready (rs := [7]) (by kernel_rfl) (by simp) ?_
              refine AllReadyH.cons rfl (fun K hK => ?_) AllReadyH.nil
              go_simp
              refine (full_calls z2 _ hz2.1 hz2.2).mono ?_
              rintro e v9 ⟨g9, hg9, rfl, hc9, hb9⟩
              have hb9' : Below wr.heap.size wr v9 := (Below.refl _ _).drew.trans (hb9.mono (Nat.le_refl _))
              have x9 := xb.below hb9'
              have y0 := x9.c0
              have y1 := x9.c1
              have y2 := x9.c2
              go_wp2_with fail
              refine hK.out _ _ ?_ (fun hHeld2 => ?_)
              · first | assumption | exact e2 | exact (hb9.cell (p := ⟨bl, off + i * 3 + 2, none⟩) hlw).trans hHeld | exact (hb8.cell (p := ⟨bl, off + i * 3 + 2, none⟩) (Nat.lt_of_lt_of_le hlw hb9'.size)).trans hHeld | exact (World.cell?_setCell_other _ _ _ _ (fun q => hne (congrArg Addr.block q))).trans ((World.cell?_setCell_other _ _ _ _ (fun q => hne (congrArg Addr.block q))).trans ((World.cell?_setCell_other _ _ _ _ (fun q => hne (congrArg Addr.block q))).trans hHeld))
              clear hK K hHeld
              have hHeld := hHeld2
              clear hHeld2
              try simp only [Act.put, List.setIfInBounds_toArray, List.set_cons_zero, List.set_cons_succ]
              refine wpAnyH_ready (rs := [8]) (by kernel_rfl) (by simp) ?_
              refine AllReadyH.cons rfl (fun K hK => ?_) AllReadyH.nil
              go_simp
              (with_reducible refine (cw _ _ ((hN.below hb9').devV) (Ints.ofCells hc9 (fullL_len z2) (by omega) (fullL_bytes hz2))).mono ?_)
              rintro e v8 ⟨u8, rfl, hN8, hb8⟩
              obtain ⟨A8, n8, C8, B8, m8, D8, rfl, hm8⟩ := hN8.form2 rfl
              clear hm8
              have x8 := x9.below hb8
              have p0 := x8.c0
              have p1 := x8.c1
              have p2 := x8.c2
              have t0 := x8.fr (o := 0)
              have t1 := x8.fr (o := 1)
              have t2 := x8.fr (o := 2)
              go_wp2_with fail
              refine hK.out _ _ ?_ (fun hHeld2 => ?_)
              · first | assumption | exact e2 | exact (hb9.cell (p := ⟨bl, off + i * 3 + 2, none⟩) hlw).trans hHeld | exact (hb8.cell (p := ⟨bl, off + i * 3 + 2, none⟩) (Nat.lt_of_lt_of_le hlw hb9'.size)).trans hHeld | exact (World.cell?_setCell_other _ _ _ _ (fun q => hne (congrArg Addr.block q))).trans ((World.cell?_setCell_other _ _ _ _ (fun q => hne (congrArg Addr.block q))).trans ((World.cell?_setCell_other _ _ _ _ (fun q => hne (congrArg Addr.block q))).trans hHeld))
              clear hK K hHeld
              have hHeld := hHeld2
              clear hHeld2
              try simp only [Act.put, List.setIfInBounds_toArray, List.set_cons_zero, List.set_cons_succ]
              refine wpAnyH_take (i := 9) (v := ?_) rfl (by kernel_rfl) (by kernel_rfl) (by kernel_rfl) (fun _ _ _ h => h) (Or.inl ⟨by rfl, ?_⟩) (by assumption) ?_
              rotate_left
              · (intro w hSw; (try dsimp only at hSw); go_simp; try with_reducible rfl)
              try simp only [Act.put, List.setIfInBounds_toArray]
              refine wpAnyH_take (i := 10) (v := ?_) rfl (by kernel_rfl) (by kernel_rfl) (by kernel_rfl) (fun _ _ _ h => h) (Or.inl ⟨by rfl, ?_⟩) (by assumption) ?_
              rotate_left
              · (intro w hSw; (try dsimp only at hSw); go_simp; try with_reducible rfl)
              try simp only [Act.put]
              refine wpAnyH_take (i := 11) (v := ?_) rfl (by kernel_rfl) (by kernel_rfl) (by kernel_rfl) (fun _ _ _ h => h) (Or.inl ⟨by rfl, ?_⟩) (by assumption) ?_
              rotate_left
              · (intro w hSw; (try dsimp only at hSw); go_simp; try with_reducible rfl)
              try simp only [Act.put]
              refine wpAnyH_ready (rs := [12]) (by kernel_rfl) (by simp) ?_
              refine AllReadyH.cons rfl (fun K hK => ?_) AllReadyH.nil
              go_simp
              refine hK.out _ _ ?_ (fun hHeld2 => ?_)
              · first | assumption | exact e2 | exact (hb9.cell (p := ⟨bl, off + i * 3 + 2, none⟩) hlw).trans hHeld | exact (hb8.cell (p := ⟨bl, off + i * 3 + 2, none⟩) (Nat.lt_of_lt_of_le hlw hb9'.size)).trans hHeld | exact (World.cell?_setCell_other _ _ _ _ (fun q => hne (congrArg Addr.block q))).trans ((World.cell?_setCell_other _ _ _ _ (fun q => hne (congrArg Addr.block q))).trans ((World.cell?_setCell_other _ _ _ _ (fun q => hne (congrArg Addr.block q))).trans hHeld))
              clear hK K hHeld
              have hHeld := hHeld2
              clear hHeld2
              try simp only [Act.put, List.setIfInBounds_toArray, List.set_cons_zero, List.set_cons_succ]
              refine wpAnyH_ready (rs := [13]) (by kernel_rfl) (by simp) ?_
              refine AllReadyH.cons rfl (fun K hK => ?_) AllReadyH.nil
              go_simp
              refine hK.out _ _ ?_ (fun hHeld2 => ?_)
              · first | assumption | exact e2 | exact (hb9.cell (p := ⟨bl, off + i * 3 + 2, none⟩) hlw).trans hHeld | exact (hb8.cell (p := ⟨bl, off + i * 3 + 2, none⟩) (Nat.lt_of_lt_of_le hlw hb9'.size)).trans hHeld | exact (World.cell?_setCell_other _ _ _ _ (fun q => hne (congrArg Addr.block q))).trans ((World.cell?_setCell_other _ _ _ _ (fun q => hne (congrArg Addr.block q))).trans ((World.cell?_setCell_other _ _ _ _ (fun q => hne (congrArg Addr.block q))).trans hHeld))
              clear hK K hHeld
              have hHeld := hHeld2
              clear hHeld2
              try simp only [Act.put, List.setIfInBounds_toArray, List.set_cons_zero, List.set_cons_succ]
              refine wpAnyH_done (by kernel_rfl) ?_ _
              have hB8 := hBw.trans ((hb9'.trans (hb8.mono hb9'.size)).mono hBw.size)
              have hR := Lib.hid (ReadsR.boxed x8 (hN8.mono (Nat.le_trans hBw.size hb9'.size)) ((ar1.below hb9').below hb8) ((ar2.below hb9').below hb8) hle hB8)
              clear hHeld p0 p1 p2 t0 t1 t2 y0 y1 y2 hN8 hb8 hb9 hc9 hB8
              go_wp2_with fail
              go_meet
              case rel => exact ⟨rfl, _, _, _, _, _, _, hR.out⟩
            ·
              go_simp
              refine (full_calls z2 _ hz2.1 hz2.2).mono ?_
              rintro e v9 ⟨g9, hg9, rfl, hc9, hb9⟩
              have hb9' : Below wr.heap.size wr v9 := (Below.refl _ _).drew.trans (hb9.mono (Nat.le_refl _))
              have x9 := xb.below hb9'
              have y0 := x9.c0
              have y1 := x9.c1
              have y2 := x9.c2
              go_wp2_with fail
              refine hK.out _ _ ?_ (fun hHeld2 => ?_)
              · first | assumption | exact e2 | exact (hb9.cell (p := ⟨bl, off + i * 3 + 2, none⟩) hlw).trans hHeld | exact (hb8.cell (p := ⟨bl, off + i * 3 + 2, none⟩) (Nat.lt_of_lt_of_le hlw hb9'.size)).trans hHeld | exact (World.cell?_setCell_other _ _ _ _ (fun q => hne (congrArg Addr.block q))).trans ((World.cell?_setCell_other _ _ _ _ (fun q => hne (congrArg Addr.block q))).trans ((World.cell?_setCell_other _ _ _ _ (fun q => hne (congrArg Addr.block q))).trans hHeld))
              clear hK K hHeld
              have hHeld := hHeld2
              clear hHeld2
              try simp only [Act.put, List.setIfInBounds_toArray, List.set_cons_zero, List.set_cons_succ]
              refine wpAnyH_ready (rs := [0]) (by kernel_rfl) (by simp) ?_
              refine AllReadyH.cons rfl (fun K hK => ?_) AllReadyH.nil
              go_simp
              refine hK.out _ _ ?_ (fun hHeld2 => ?_)
              · first | assumption | exact e2 | exact (hb9.cell (p := ⟨bl, off + i * 3 + 2, none⟩) hlw).trans hHeld | exact (hb8.cell (p := ⟨bl, off + i * 3 + 2, none⟩) (Nat.lt_of_lt_of_le hlw hb9'.size)).trans hHeld | exact (World.cell?_setCell_other _ _ _ _ (fun q => hne (congrArg Addr.block q))).trans ((World.cell?_setCell_other _ _ _ _ (fun q => hne (congrArg Addr.block q))).trans ((World.cell?_setCell_other _ _ _ _ (fun q => hne (congrArg Addr.block q))).trans hHeld))
              clear hK K hHeld
              have hHeld := hHeld2
              clear hHeld2
              try simp only [Act.put, List.setIfInBounds_toArray, List.set_cons_zero, List.set_cons_succ]
              refine wpAnyH_ready (rs := [8]) (by kernel_rfl) (by simp) ?_
              refine AllReadyH.cons rfl (fun K hK => ?_) AllReadyH.nil
              go_simp
              (with_reducible refine (cw _ _ ((hN.below hb9').devV) (Ints.ofCells hc9 (fullL_len z2) (by omega) (fullL_bytes hz2))).mono ?_)
              rintro e v8 ⟨u8, rfl, hN8, hb8⟩
              obtain ⟨A8, n8, C8, B8, m8, D8, rfl, hm8⟩ := hN8.form2 rfl
              clear hm8
              have x8 := x9.below hb8
              have p0 := x8.c0
              have p1 := x8.c1
              have p2 := x8.c2
              have t0 := x8.fr (o := 0)
              have t1 := x8.fr (o := 1)
              have t2 := x8.fr (o := 2)
              go_wp2_with fail
              refine hK.out _ _ ?_ (fun hHeld2 => ?_)
              · first | assumption | exact e2 | exact (hb9.cell (p := ⟨bl, off + i * 3 + 2, none⟩) hlw).trans hHeld | exact (hb8.cell (p := ⟨bl, off + i * 3 + 2, none⟩) (Nat.lt_of_lt_of_le hlw hb9'.size)).trans hHeld | exact (World.cell?_setCell_other _ _ _ _ (fun q => hne (congrArg Addr.block q))).trans ((World.cell?_setCell_other _ _ _ _ (fun q => hne (congrArg Addr.block q))).trans ((World.cell?_setCell_other _ _ _ _ (fun q => hne (congrArg Addr.block q))).trans hHeld))
              clear hK K hHeld
              have hHeld := hHeld2
              clear hHeld2
              try simp only [Act.put, List.setIfInBounds_toArray, List.set_cons_zero, List.set_cons_succ]
              refine wpAnyH_take (i := 9) (v := ?_) rfl (by kernel_rfl) (by kernel_rfl) (by kernel_rfl) (fun _ _ _ h => h) (Or.inl ⟨by rfl, ?_⟩) (by assumption) ?_
              rotate_left
              · (intro w hSw; (try dsimp only at hSw); go_simp; try with_reducible rfl)
              try simp only [Act.put, List.setIfInBounds_toArray]
              refine wpAnyH_take (i := 10) (v := ?_) rfl (by kernel_rfl) (by kernel_rfl) (by kernel_rfl) (fun _ _ _ h => h) (Or.inl ⟨by rfl, ?_⟩) (by assumption) ?_
              rotate_left
              · (intro w hSw; (try dsimp only at hSw); go_simp; try with_reducible rfl)
              try simp only [Act.put]
              refine wpAnyH_take (i := 11) (v := ?_) rfl (by kernel_rfl) (by kernel_rfl) (by kernel_rfl) (fun _ _ _ h => h) (Or.inl ⟨by rfl, ?_⟩) (by assumption) ?_
              rotate_left
              · (intro w hSw; (try dsimp only at hSw); go_simp; try with_reducible rfl)
              try simp only [Act.put]
              refine wpAnyH_ready (rs := [12]) (by kernel_rfl) (by simp) ?_
              refine AllReadyH.cons rfl (fun K hK => ?_) AllReadyH.nil
              go_simp
              refine hK.out _ _ ?_ (fun hHeld2 => ?_)
              · first | assumption | exact e2 | exact (hb9.cell (p := ⟨bl, off + i * 3 + 2, none⟩) hlw).trans hHeld | exact (hb8.cell (p := ⟨bl, off + i * 3 + 2, none⟩) (Nat.lt_of_lt_of_le hlw hb9'.size)).trans hHeld | exact (World.cell?_setCell_other _ _ _ _ (fun q => hne (congrArg Addr.block q))).trans ((World.cell?_setCell_other _ _ _ _ (fun q => hne (congrArg Addr.block q))).trans ((World.cell?_setCell_other _ _ _ _ (fun q => hne (congrArg Addr.block q))).trans hHeld))
              clear hK K hHeld
              have hHeld := hHeld2
              clear hHeld2
              try simp only [Act.put, List.setIfInBounds_toArray, List.set_cons_zero, List.set_cons_succ]
              refine wpAnyH_ready (rs := [13]) (by kernel_rfl) (by simp) ?_
              refine AllReadyH.cons rfl (fun K hK => ?_) AllReadyH.nil
              go_simp
              refine hK.out _ _ ?_ (fun hHeld2 => ?_)
              · first | assumption | exact e2 | exact (hb9.cell (p := ⟨bl, off + i * 3 + 2, none⟩) hlw).trans hHeld | exact (hb8.cell (p := ⟨bl, off + i * 3 + 2, none⟩) (Nat.lt_of_lt_of_le hlw hb9'.size)).trans hHeld | exact (World.cell?_setCell_other _ _ _ _ (fun q => hne (congrArg Addr.block q))).trans ((World.cell?_setCell_other _ _ _ _ (fun q => hne (congrArg Addr.block q))).trans ((World.cell?_setCell_other _ _ _ _ (fun q => hne (congrArg Addr.block q))).trans hHeld))
              clear hK K hHeld
              have hHeld := hHeld2
              clear hHeld2
              try simp only [Act.put, List.setIfInBounds_toArray, List.set_cons_zero, List.set_cons_succ]
              refine wpAnyH_done (by kernel_rfl) ?_ _
              have hB8 := hBw.trans ((hb9'.trans (hb8.mono hb9'.size)).mono hBw.size)
              have hR := Lib.hid (ReadsR.boxed x8 (hN8.mono (Nat.le_trans hBw.size hb9'.size)) ((ar1.below hb9').below hb8) ((ar2.below hb9').below hb8) hle hB8)
              clear hHeld p0 p1 p2 t0 t1 t2 y0 y1 y2 hN8 hb8 hb9 hc9 hB8
              go_wp2_with fail
              go_meet
              case rel => exact ⟨rfl, _, _, _, _, _, _, hR.out⟩
          case rest =>
            obtain ⟨rfl, A5, B5, n5, C5, m5, D5, xb5, hN5, ar15, ar25, hb5⟩ := hcut
            have e2' := (hb5.cell (p := ⟨bl, off + i * 3 + 2, none⟩) hlw0).trans ((hBw.cell (p := ⟨bl, off + i * 3 + 2, none⟩) hlw0).symm.trans e2)
            have ca1 := ar15.cell (k := q) (by rw [L1.out]; exact hq4)
            have fa1 := ar15.fr (k := q)
            have hR : Hid (ReadsR w b (i + 1) (wc.setCell ⟨b + 1, q, none⟩ (.int .u8 z2))) := Lib.hid ⟨_, _, _, A5, B5, n5, C5, m5, D5, xb5.other (by show b ≠ b + 1; omega) _, hN5.setArr ar15, hT1'.out, ar15.set z2, ar25.other (by show b + 1 + 1 ≠ b + 1; omega) _, hle, hb5.setCell (p := ⟨b + 1, q, none⟩) (by show w.heap.size ≤ b + 1; omega) _⟩
            clear x0 x1 x2 e0 e1 e2 cw xb hN ar1 ar2 xb5 hN5 ar15 ar25
            go_wp2
            go_roundw
            case rel => exact ⟨i + 1, by omega, rfl, by go_num, hR.out⟩
            case measure => simp [intOf]; omega
        · obtain ⟨hwE, hT1⟩ := hT'.out.fua hq4 hz2
          have cw := fun (W : World) (g : Nat) (h : DevV W (.agg #[.slice A n' C', .slice B m' D', .bool false]) dv) (hz : Ints .u8 W (some ⟨g, 0, none⟩) 128 (fullL z2)) => fua_calls _ dv q (some ⟨g, 0, none⟩) 128 128 (fullL z2) W h hz
          rw [hwE, show resD 0 ⟨dv.blocks.set (q : Int).toNat (fullL z2), dv.wait.filter (keepB q), false⟩ = fuaD dv q (fullL z2) from rfl] at cw
          have hT1' := Lib.hid hT1
          clear hwE hT1
          go_upto_region 17 with fail
          try simp only [hq, hk]
          go_cut [7] (fun s7 wx => s7 = .int .i64 0 ∧ ∃ (A5 B5 : Option Addr) (n5 C5 m5 D5 : Nat), BoxD wx b (.slice A5 n5 C5) (.slice B5 m5 D5) (.bool false) ∧ DevN w.heap.size wx (.agg #[.slice A5 n5 C5, .slice B5 m5 D5, .bool false]) (fuaD dv q (fullL z2)) ∧ Arr wx (b + 1) now ∧ Arr wx (b + 1 + 1) sure ∧ Below w.heap.size w wx)
          case first =>
            refine wp_region_held_drew (S := (fun W => W.cell? ⟨bl, off + i * 3 + 2, none⟩ = some (.int .u8 z2))) (by kernel_rfl) ?_ (fun hHeld => ?_)
            · first | assumption | exact e2 | exact (hb9.cell (p := ⟨bl, off + i * 3 + 2, none⟩) hlw).trans hHeld | exact (hb8.cell (p := ⟨bl, off + i * 3 + 2, none⟩) (Nat.lt_of_lt_of_le hlw hb9'.size)).trans hHeld | exact (World.cell?_setCell_other _ _ _ _ (fun q => hne (congrArg Addr.block q))).trans ((World.cell?_setCell_other _ _ _ _ (fun q => hne (congrArg Addr.block q))).trans ((World.cell?_setCell_other _ _ _ _ (fun q => hne (congrArg Addr.block q))).trans hHeld))
            refine wpAnyH_take (i := 1) (v := ?_) rfl (by kernel_rfl) (by kernel_rfl) (by kernel_rfl) (fun _ _ _ h => h) (Or.inl ⟨by rfl, ?_⟩) (by assumption) ?_
            rotate_left
            · (intro w hSw; (try dsimp only at hSw); go_simp; try with_reducible rfl)
            try simp only [Act.put, List.setIfInBounds_toArray]
            refine wpAnyH_take (i := 2) (v := ?_) rfl (by kernel_rfl) (by kernel_rfl) (by kernel_rfl) (fun _ _ _ h => h) (Or.inl ⟨by rfl, ?_⟩) (by assumption) ?_
            rotate_left
            · (intro w hSw; (try dsimp only at hSw); go_simp; try with_reducible rfl)
            try simp only [Act.put]
            refine wpAnyH_take (i := 3) (v := ?_) rfl (by kernel_rfl) (by kernel_rfl) (by kernel_rfl) (fun _ _ _ h => h) (Or.inl ⟨by rfl, ?_⟩) (by assumption) ?_
            rotate_left
            · (intro w hSw; (try dsimp only at hSw); go_simp; try with_reducible rfl)
            try simp only [Act.put]
            refine wpAnyH_take (i := 4) (v := ?_) rfl (by kernel_rfl) (by kernel_rfl) (by kernel_rfl) (fun _ _ _ h => h) (Or.inl ⟨by rfl, ?_⟩) (by assumption) ?_
            rotate_left
            · (intro w hSw; (try dsimp only at hSw); go_simp; try with_reducible rfl)
            try simp only [Act.put]
            refine wpAnyH_take (i := 5) (v := ?_) rfl (by kernel_rfl) (by kernel_rfl) (by kernel_rfl) (fun _ _ _ h => h) (Or.inl ⟨by rfl, ?_⟩) (by assumption) ?_
            rotate_left
            · (intro w hSw; (try dsimp only at hSw); go_simp; try with_reducible rfl)
            try simp only [Act.put]
            refine wpAnyH_take (i := 6) (v := ?_) rfl (by kernel_rfl) (by kernel_rfl) (by kernel_rfl) (fun _ _ _ h => h) (Or.inl ⟨by rfl, ?_⟩) (by assumption) ?_
            rotate_left
            · (intro w hSw; (try dsimp only at hSw); go_simp; try with_reducible rfl)
            try simp only [Act.put]
            refine wpAnyH_ready (rs := [0, 7]) (by kernel_rfl) (by simp) ?_
            refine AllReadyH.cons rfl (fun K hK => ?_) (AllReadyH.cons rfl (fun K hK => ?_) AllReadyH.nil)
            ·
              go_simp
              refine hK.out _ _ ?_ (fun hHeld2 => ?_)
              · first | assumption | exact e2 | exact (hb9.cell (p := ⟨bl, off + i * 3 + 2, none⟩) hlw).trans hHeld | exact (hb8.cell (p := ⟨bl, off + i * 3 + 2, none⟩) (Nat.lt_of_lt_of_le hlw hb9'.size)).trans hHeld | exact (World.cell?_setCell_other _ _ _ _ (fun q => hne (congrArg Addr.block q))).trans ((World.cell?_setCell_other _ _ _ _ (fun q => hne (congrArg Addr.block q))).trans ((World.cell?_setCell_other _ _ _ _ (fun q => hne (congrArg Addr.block q))).trans hHeld))
              clear hK K hHeld
              have hHeld := hHeld2
              clear hHeld2
              try simp only [Act.put, List.setIfInBounds_toArray, List.set_cons_zero, List.set_cons_succ]
              refine wpAnyH_ready (rs := [7]) (by kernel_rfl) (by simp) ?_
              refine AllReadyH.cons rfl (fun K hK => ?_) AllReadyH.nil
              go_simp
              refine (full_calls z2 _ hz2.1 hz2.2).mono ?_
              rintro e v9 ⟨g9, hg9, rfl, hc9, hb9⟩
              have hb9' : Below wr.heap.size wr v9 := (Below.refl _ _).drew.trans (hb9.mono (Nat.le_refl _))
              have x9 := xb.below hb9'
              have y0 := x9.c0
              have y1 := x9.c1
              have y2 := x9.c2
              go_wp2_with fail
              refine hK.out _ _ ?_ (fun hHeld2 => ?_)
              · first | assumption | exact e2 | exact (hb9.cell (p := ⟨bl, off + i * 3 + 2, none⟩) hlw).trans hHeld | exact (hb8.cell (p := ⟨bl, off + i * 3 + 2, none⟩) (Nat.lt_of_lt_of_le hlw hb9'.size)).trans hHeld | exact (World.cell?_setCell_other _ _ _ _ (fun q => hne (congrArg Addr.block q))).trans ((World.cell?_setCell_other _ _ _ _ (fun q => hne (congrArg Addr.block q))).trans ((World.cell?_setCell_other _ _ _ _ (fun q => hne (congrArg Addr.block q))).trans hHeld))
              clear hK K hHeld
              have hHeld := hHeld2
              clear hHeld2
              try simp only [Act.put, List.setIfInBounds_toArray, List.set_cons_zero, List.set_cons_succ]
              refine wpAnyH_ready (rs := [8]) (by kernel_rfl) (by simp) ?_
              refine AllReadyH.cons rfl (fun K hK => ?_) AllReadyH.nil
              go_simp
              (with_reducible refine (cw _ _ ((hN.below hb9').devV) (Ints.ofCells hc9 (fullL_len z2) (by omega) (fullL_bytes hz2))).mono ?_)
              rintro e v8 ⟨u8, rfl, hN8, hb8⟩
              obtain ⟨A8, n8, C8, B8, m8, D8, rfl, hm8⟩ := hN8.form2 rfl
              clear hm8
              have x8 := x9.below hb8
              have p0 := x8.c0
              have p1 := x8.c1
              have p2 := x8.c2
              have t0 := x8.fr (o := 0)
              have t1 := x8.fr (o := 1)
              have t2 := x8.fr (o := 2)
              go_wp2_with fail
              refine hK.out _ _ ?_ (fun hHeld2 => ?_)
              · first | assumption | exact e2 | exact (hb9.cell (p := ⟨bl, off + i * 3 + 2, none⟩) hlw).trans hHeld | exact (hb8.cell (p := ⟨bl, off + i * 3 + 2, none⟩) (Nat.lt_of_lt_of_le hlw hb9'.size)).trans hHeld | exact (World.cell?_setCell_other _ _ _ _ (fun q => hne (congrArg Addr.block q))).trans ((World.cell?_setCell_other _ _ _ _ (fun q => hne (congrArg Addr.block q))).trans ((World.cell?_setCell_other _ _ _ _ (fun q => hne (congrArg Addr.block q))).trans hHeld))
              clear hK K hHeld
              have hHeld := hHeld2
              clear hHeld2
              try simp only [Act.put, List.setIfInBounds_toArray, List.set_cons_zero, List.set_cons_succ]
              refine wpAnyH_take (i := 9) (v := ?_) rfl (by kernel_rfl) (by kernel_rfl) (by kernel_rfl) (fun _ _ _ h => h) (Or.inl ⟨by rfl, ?_⟩) (by assumption) ?_
              rotate_left
              · (intro w hSw; (try dsimp only at hSw); go_simp; try with_reducible rfl)
              try simp only [Act.put, List.setIfInBounds_toArray]
              refine wpAnyH_take (i := 10) (v := ?_) rfl (by kernel_rfl) (by kernel_rfl) (by kernel_rfl) (fun _ _ _ h => h) (Or.inl ⟨by rfl, ?_⟩) (by assumption) ?_
              rotate_left
              · (intro w hSw; (try dsimp only at hSw); go_simp; try with_reducible rfl)
              try simp only [Act.put]
              refine wpAnyH_take (i := 11) (v := ?_) rfl (by kernel_rfl) (by kernel_rfl) (by kernel_rfl) (fun _ _ _ h => h) (Or.inl ⟨by rfl, ?_⟩) (by assumption) ?_
              rotate_left
              · (intro w hSw; (try dsimp only at hSw); go_simp; try with_reducible rfl)
              try simp only [Act.put]
              refine wpAnyH_ready (rs := [12]) (by kernel_rfl) (by simp) ?_
              refine AllReadyH.cons rfl (fun K hK => ?_) AllReadyH.nil
              go_simp
              refine hK.out _ _ ?_ (fun hHeld2 => ?_)
              · first | assumption | exact e2 | exact (hb9.cell (p := ⟨bl, off + i * 3 + 2, none⟩) hlw).trans hHeld | exact (hb8.cell (p := ⟨bl, off + i * 3 + 2, none⟩) (Nat.lt_of_lt_of_le hlw hb9'.size)).trans hHeld | exact (World.cell?_setCell_other _ _ _ _ (fun q => hne (congrArg Addr.block q))).trans ((World.cell?_setCell_other _ _ _ _ (fun q => hne (congrArg Addr.block q))).trans ((World.cell?_setCell_other _ _ _ _ (fun q => hne (congrArg Addr.block q))).trans hHeld))
              clear hK K hHeld
              have hHeld := hHeld2
              clear hHeld2
              try simp only [Act.put, List.setIfInBounds_toArray, List.set_cons_zero, List.set_cons_succ]
              refine wpAnyH_ready (rs := [13]) (by kernel_rfl) (by simp) ?_
              refine AllReadyH.cons rfl (fun K hK => ?_) AllReadyH.nil
              go_simp
              refine hK.out _ _ ?_ (fun hHeld2 => ?_)
              · first | assumption | exact e2 | exact (hb9.cell (p := ⟨bl, off + i * 3 + 2, none⟩) hlw).trans hHeld | exact (hb8.cell (p := ⟨bl, off + i * 3 + 2, none⟩) (Nat.lt_of_lt_of_le hlw hb9'.size)).trans hHeld | exact (World.cell?_setCell_other _ _ _ _ (fun q => hne (congrArg Addr.block q))).trans ((World.cell?_setCell_other _ _ _ _ (fun q => hne (congrArg Addr.block q))).trans ((World.cell?_setCell_other _ _ _ _ (fun q => hne (congrArg Addr.block q))).trans hHeld))
              clear hK K hHeld
              have hHeld := hHeld2
              clear hHeld2
              try simp only [Act.put, List.setIfInBounds_toArray, List.set_cons_zero, List.set_cons_succ]
              refine wpAnyH_done (by kernel_rfl) ?_ _
              have hB8 := hBw.trans ((hb9'.trans (hb8.mono hb9'.size)).mono hBw.size)
              have hR := Lib.hid (ReadsR.boxed x8 (hN8.mono (Nat.le_trans hBw.size hb9'.size)) ((ar1.below hb9').below hb8) ((ar2.below hb9').below hb8) hle hB8)
              clear hHeld p0 p1 p2 t0 t1 t2 y0 y1 y2 hN8 hb8 hb9 hc9 hB8
              go_wp2_with fail
              go_meet
              case rel => exact ⟨rfl, _, _, _, _, _, _, hR.out⟩
            ·
              go_simp
              refine (full_calls z2 _ hz2.1 hz2.2).mono ?_
              rintro e v9 ⟨g9, hg9, rfl, hc9, hb9⟩
              have hb9' : Below wr.heap.size wr v9 := (Below.refl _ _).drew.trans (hb9.mono (Nat.le_refl _))
              have x9 := xb.below hb9'
              have y0 := x9.c0
              have y1 := x9.c1
              have y2 := x9.c2
              go_wp2_with fail
              refine hK.out _ _ ?_ (fun hHeld2 => ?_)
              · first | assumption | exact e2 | exact (hb9.cell (p := ⟨bl, off + i * 3 + 2, none⟩) hlw).trans hHeld | exact (hb8.cell (p := ⟨bl, off + i * 3 + 2, none⟩) (Nat.lt_of_lt_of_le hlw hb9'.size)).trans hHeld | exact (World.cell?_setCell_other _ _ _ _ (fun q => hne (congrArg Addr.block q))).trans ((World.cell?_setCell_other _ _ _ _ (fun q => hne (congrArg Addr.block q))).trans ((World.cell?_setCell_other _ _ _ _ (fun q => hne (congrArg Addr.block q))).trans hHeld))
              clear hK K hHeld
              have hHeld := hHeld2
              clear hHeld2
              try simp only [Act.put, List.setIfInBounds_toArray, List.set_cons_zero, List.set_cons_succ]
              refine wpAnyH_ready (rs := [0]) (by kernel_rfl) (by simp) ?_
              refine AllReadyH.cons rfl (fun K hK => ?_) AllReadyH.nil
              go_simp
              refine hK.out _ _ ?_ (fun hHeld2 => ?_)
              · first | assumption | exact e2 | exact (hb9.cell (p := ⟨bl, off + i * 3 + 2, none⟩) hlw).trans hHeld | exact (hb8.cell (p := ⟨bl, off + i * 3 + 2, none⟩) (Nat.lt_of_lt_of_le hlw hb9'.size)).trans hHeld | exact (World.cell?_setCell_other _ _ _ _ (fun q => hne (congrArg Addr.block q))).trans ((World.cell?_setCell_other _ _ _ _ (fun q => hne (congrArg Addr.block q))).trans ((World.cell?_setCell_other _ _ _ _ (fun q => hne (congrArg Addr.block q))).trans hHeld))
              clear hK K hHeld
              have hHeld := hHeld2
              clear hHeld2
              try simp only [Act.put, List.setIfInBounds_toArray, List.set_cons_zero, List.set_cons_succ]
              refine wpAnyH_ready (rs := [8]) (by kernel_rfl) (by simp) ?_
              refine AllReadyH.cons rfl (fun K hK => ?_) AllReadyH.nil
              go_simp
              (with_reducible refine (cw _ _ ((hN.below hb9').devV) (Ints.ofCells hc9 (fullL_len z2) (by omega) (fullL_bytes hz2))).mono ?_)
              rintro e v8 ⟨u8, rfl, hN8, hb8⟩
              obtain ⟨A8, n8, C8, B8, m8, D8, rfl, hm8⟩ := hN8.form2 rfl
              clear hm8
              have x8 := x9.below hb8
              have p0 := x8.c0
              have p1 := x8.c1
              have p2 := x8.c2
              have t0 := x8.fr (o := 0)
              have t1 := x8.fr (o := 1)
              have t2 := x8.fr (o := 2)
              go_wp2_with fail
              refine hK.out _ _ ?_ (fun hHeld2 => ?_)
              · first | assumption | exact e2 | exact (hb9.cell (p := ⟨bl, off + i * 3 + 2, none⟩) hlw).trans hHeld | exact (hb8.cell (p := ⟨bl, off + i * 3 + 2, none⟩) (Nat.lt_of_lt_of_le hlw hb9'.size)).trans hHeld | exact (World.cell?_setCell_other _ _ _ _ (fun q => hne (congrArg Addr.block q))).trans ((World.cell?_setCell_other _ _ _ _ (fun q => hne (congrArg Addr.block q))).trans ((World.cell?_setCell_other _ _ _ _ (fun q => hne (congrArg Addr.block q))).trans hHeld))
              clear hK K hHeld
              have hHeld := hHeld2
              clear hHeld2
              try simp only [Act.put, List.setIfInBounds_toArray, List.set_cons_zero, List.set_cons_succ]
              refine wpAnyH_take (i := 9) (v := ?_) rfl (by kernel_rfl) (by kernel_rfl) (by kernel_rfl) (fun _ _ _ h => h) (Or.inl ⟨by rfl, ?_⟩) (by assumption) ?_
              rotate_left
              · (intro w hSw; (try dsimp only at hSw); go_simp; try with_reducible rfl)
              try simp only [Act.put, List.setIfInBounds_toArray]
              refine wpAnyH_take (i := 10) (v := ?_) rfl (by kernel_rfl) (by kernel_rfl) (by kernel_rfl) (fun _ _ _ h => h) (Or.inl ⟨by rfl, ?_⟩) (by assumption) ?_
              rotate_left
              · (intro w hSw; (try dsimp only at hSw); go_simp; try with_reducible rfl)
              try simp only [Act.put]
              refine wpAnyH_take (i := 11) (v := ?_) rfl (by kernel_rfl) (by kernel_rfl) (by kernel_rfl) (fun _ _ _ h => h) (Or.inl ⟨by rfl, ?_⟩) (by assumption) ?_
              rotate_left
              · (intro w hSw; (try dsimp only at hSw); go_simp; try with_reducible rfl)
              try simp only [Act.put]
              refine wpAnyH_ready (rs := [12]) (by kernel_rfl) (by simp) ?_
              refine AllReadyH.cons rfl (fun K hK => ?_) AllReadyH.nil
              go_simp
              refine hK.out _ _ ?_ (fun hHeld2 => ?_)
              · first | assumption | exact e2 | exact (hb9.cell (p := ⟨bl, off + i * 3 + 2, none⟩) hlw).trans hHeld | exact (hb8.cell (p := ⟨bl, off + i * 3 + 2, none⟩) (Nat.lt_of_lt_of_le hlw hb9'.size)).trans hHeld | exact (World.cell?_setCell_other _ _ _ _ (fun q => hne (congrArg Addr.block q))).trans ((World.cell?_setCell_other _ _ _ _ (fun q => hne (congrArg Addr.block q))).trans ((World.cell?_setCell_other _ _ _ _ (fun q => hne (congrArg Addr.block q))).trans hHeld))
              clear hK K hHeld
              have hHeld := hHeld2
              clear hHeld2
              try simp only [Act.put, List.setIfInBounds_toArray, List.set_cons_zero, List.set_cons_succ]
              refine wpAnyH_ready (rs := [13]) (by kernel_rfl) (by simp) ?_
              refine AllReadyH.cons rfl (fun K hK => ?_) AllReadyH.nil
              go_simp
              refine hK.out _ _ ?_ (fun hHeld2 => ?_)
              · first | assumption | exact e2 | exact (hb9.cell (p := ⟨bl, off + i * 3 + 2, none⟩) hlw).trans hHeld | exact (hb8.cell (p := ⟨bl, off + i * 3 + 2, none⟩) (Nat.lt_of_lt_of_le hlw hb9'.size)).trans hHeld | exact (World.cell?_setCell_other _ _ _ _ (fun q => hne (congrArg Addr.block q))).trans ((World.cell?_setCell_other _ _ _ _ (fun q => hne (congrArg Addr.block q))).trans ((World.cell?_setCell_other _ _ _ _ (fun q => hne (congrArg Addr.block q))).trans hHeld))
              clear hK K hHeld
              have hHeld := hHeld2
              clear hHeld2
              try simp only [Act.put, List.setIfInBounds_toArray, List.set_cons_zero, List.set_cons_succ]
              refine wpAnyH_done (by kernel_rfl) ?_ _
              have hB8 := hBw.trans ((hb9'.trans (hb8.mono hb9'.size)).mono hBw.size)
              have hR := Lib.hid (ReadsR.boxed x8 (hN8.mono (Nat.le_trans hBw.size hb9'.size)) ((ar1.below hb9').below hb8) ((ar2.below hb9').below hb8) hle hB8)
              clear hHeld p0 p1 p2 t0 t1 t2 y0 y1 y2 hN8 hb8 hb9 hc9 hB8
              go_wp2_with fail
              go_meet
              case rel => exact ⟨rfl, _, _, _, _, _, _, hR.out⟩
          case rest =>
            obtain ⟨rfl, A5, B5, n5, C5, m5, D5, xb5, hN5, ar15, ar25, hb5⟩ := hcut
            have e2' := (hb5.cell (p := ⟨bl, off + i * 3 + 2, none⟩) hlw0).trans ((hBw.cell (p := ⟨bl, off + i * 3 + 2, none⟩) hlw0).symm.trans e2)
            have hlc : bl < wc.heap.size := Nat.lt_of_lt_of_le hlw0 hb5.size
            have hnb : bl ≠ b + 1 := by omega
            have ca1 := ar15.cell (k := q) (by rw [L1.out]; exact hq4)
            have fa1 := ar15.fr (k := q)
            have ca2 := ar25.cell (k := q) (by rw [L2.out]; exact hq4)
            have fa2 := ar25.fr (k := q)
            have hR : Hid (ReadsR w b (i + 1) ((wc.setCell ⟨b + 1, q, none⟩ (.int .u8 z2)).setCell ⟨b + 1 + 1, q, none⟩ (.int .u8 z2))) := Lib.hid ⟨_, _, _, A5, B5, n5, C5, m5, D5, (xb5.other (by show b ≠ b + 1; omega) _).other (by show b ≠ b + 1 + 1; omega) _, (hN5.setArr ar15).setArr (ar25.other (by show b + 1 + 1 ≠ b + 1; omega) _), hT1'.out, (ar15.set z2).other (by show b + 1 ≠ b + 1 + 1; omega) _, (ar25.other (by show b + 1 + 1 ≠ b + 1; omega) _).set z2, hle, (hb5.setCell (p := ⟨b + 1, q, none⟩) (by show w.heap.size ≤ b + 1; omega) _).setCell (p := ⟨b + 1 + 1, q, none⟩) (by show w.heap.size ≤ b + 1 + 1; omega) _⟩
            clear x0 x1 x2 e0 e1 e2 cw xb hN ar1 ar2 xb5 hN5 ar15 ar25
            go_wp2
            go_roundw
            case rel => exact ⟨i + 1, by omega, rfl, by go_num, hR.out⟩
            case measure => simp [intOf]; omega
        · obtain ⟨hwE, hT1⟩ := hT'.out.flush
          have cw := flush_calls _ dv wr hN.devV
          rw [hwE, show resD 0 ⟨flushL dv.blocks dv.wait, [], false⟩ = flushD dv from rfl] at cw
          have hT1' := Lib.hid hT1
          clear hwE hT1
          go_wp2_with fail
          (with_reducible refine cw.mono ?_)
          rintro e v8 ⟨u8, rfl, hN8, hb8⟩
          obtain ⟨A8, n8, C8, B8, m8, D8, rfl, hm8⟩ := hN8.form2 rfl
          clear hm8
          have x8 := xb.below hb8
          have p0 := x8.c0
          have p1 := x8.c1
          have p2 := x8.c2
          have t0 := x8.fr (o := 0)
          have t1 := x8.fr (o := 1)
          have t2 := x8.fr (o := 2)
          obtain ⟨n0, n1, n2', n3, rfl⟩ := list4 L1.out
          obtain ⟨s0, s1, s2, s3, rfl⟩ := list4 L2.out
          have b1 := ar1.below hb8
          have b2 := ar2.below hb8
          have k0 : v8.cell? ⟨b + 1, 0, none⟩ = some (.int .u8 n0) := b1.cell (k := 0) (by simp)
          have k1 : v8.cell? ⟨b + 1, 1, none⟩ = some (.int .u8 n1) := b1.cell (k := 1) (by simp)
          have k2 : v8.cell? ⟨b + 1, 2, none⟩ = some (.int .u8 n2') := b1.cell (k := 2) (by simp)
          have k3 : v8.cell? ⟨b + 1, 3, none⟩ = some (.int .u8 n3) := b1.cell (k := 3) (by simp)
          have j0 : v8.cell? ⟨b + 1 + 1, 0, none⟩ = some (.int .u8 s0) := b2.cell (k := 0) (by simp)
          have j1 : v8.cell? ⟨b + 1 + 1, 1, none⟩ = some (.int .u8 s1) := b2.cell (k := 1) (by simp)
          have j2 : v8.cell? ⟨b + 1 + 1, 2, none⟩ = some (.int .u8 s2) := b2.cell (k := 2) (by simp)
          have j3 : v8.cell? ⟨b + 1 + 1, 3, none⟩ = some (.int .u8 s3) := b2.cell (k := 3) (by simp)
          have f0 := b2.fr (k := 0)
          have f1 := b2.fr (k := 1)
          have f2 := b2.fr (k := 2)
          have f3 := b2.fr (k := 3)
          have hB8 := hBw.trans (hb8.mono hBw.size)
          obtain ⟨y1, y2, y3, y4, y5⟩ := ReadsR.boxed x8 (hN8.mono hBw.size) b1 b2 hle hB8
          have z1' := ((((y4.set (k := 0) n0).set (k := 1) n1).set (k := 2) n2').set (k := 3) n3)
          have hR : Hid (ReadsR w b (i + 1) _) := Lib.hid ⟨_, [n0, n1, n2', n3], [n0, n1, n2', n3], A8, B8, n8, C8, m8, D8,
            (((y1.other (p := ⟨b + 1 + 1, 0, none⟩) (by show b ≠ b + 1 + 1; omega) (.int .u8 n0)).other (p := ⟨b + 1 + 1, 1, none⟩) (by show b ≠ b + 1 + 1; omega) (.int .u8 n1)).other (p := ⟨b + 1 + 1, 2, none⟩) (by show b ≠ b + 1 + 1; omega) (.int .u8 n2')).other (p := ⟨b + 1 + 1, 3, none⟩) (by show b ≠ b + 1 + 1; omega) (.int .u8 n3),
            (((y2.setArr (k := 0) (u := .int .u8 n0) y4).setArr (k := 1) (u := .int .u8 n1) (y4.set n0)).setArr (k := 2) (u := .int .u8 n2') ((y4.set n0).set n1)).setArr (k := 3) (u := .int .u8 n3) (((y4.set n0).set n1).set n2'),
            hT1'.out,
            (((y3.other (p := ⟨b + 1 + 1, 0, none⟩) (by show b + 1 ≠ b + 1 + 1; omega) (.int .u8 n0)).other (p := ⟨b + 1 + 1, 1, none⟩) (by show b + 1 ≠ b + 1 + 1; omega) (.int .u8 n1)).other (p := ⟨b + 1 + 1, 2, none⟩) (by show b + 1 ≠ b + 1 + 1; omega) (.int .u8 n2')).other (p := ⟨b + 1 + 1, 3, none⟩) (by show b + 1 ≠ b + 1 + 1; omega) (.int .u8 n3),
            z1', hle,
            (((y5.setCell (p := ⟨b + 1 + 1, 0, none⟩) (by show w.heap.size ≤ b + 1 + 1; omega) (.int .u8 n0)).setCell (p := ⟨b + 1 + 1, 1, none⟩) (by show w.heap.size ≤ b + 1 + 1; omega) (.int .u8 n1)).setCell (p := ⟨b + 1 + 1, 2, none⟩) (by show w.heap.size ≤ b + 1 + 1; omega) (.int .u8 n2')).setCell (p := ⟨b + 1 + 1, 3, none⟩) (by show w.heap.size ≤ b + 1 + 1; omega) (.int .u8 n3)⟩
          clear x0 x1 x2 e0 e1 e2 cw xb hN ar1 ar2 b1 b2 y1 y2 y3 y4 y5 z1' hN8 hb8
          go_wp2
          go_roundw
          case rel => exact ⟨i + 1, by omega, rfl, by go_num, hR.out⟩
          case measure => simp [intOf]; omega
      · obtain rfl : n = i := by omega
        clear hH
        have x0 := xb.c0
        have x1 := xb.c1
        have x2 := xb.c2
        obtain ⟨wo, rfl⟩ : ∃ x : World, x = wr := ⟨_, rfl⟩
        have cc := check_calls _ dv wo hN.devV
        rw [chk_may hT.1] at cc
        have hT' := Lib.hid hT
        clear hT
        go_wp2_with fail
        (with_reducible refine cc.mono ?_)
        rintro e w4 ⟨rfl, hb4⟩
        clear cc
        go_wp2
        go_loopw [12] (fun s12 wr2 => ∃ k : Nat, k ≤ 4 ∧ s12 = .int .i64 k ∧ Below wo.heap.size wo wr2) (fun s12 _ => 4 - (intOf s12).toNat)
        case atStart => exact ⟨0, by omega, rfl, hb4⟩
        case round =>
          obtain ⟨k, hk, rfl, hb5⟩ := hrel
          by_cases hk4 : k < 4
          · have hk4' : (k : Int) < 4 := by omega
            have hk0 : (0 : Int) ≤ (k : Int) := by omega
            have n1 := ar1.cell (k := k) (by rw [hT'.out.2.2.2.2.1]; exact hk4)
            have s1 := ar2.cell (k := k) (by rw [hT'.out.2.2.2.2.2.1]; exact hk4)
            have cr := fun (W : World) (hW : Below wo.heap.size wo W) => reads_told hN hT'.out hk4 hW
            have cl := fun (W : World) (hW : Below wo.heap.size wo W) => lasts_told hN hT'.out hk4 hW
            generalize now.getD k 0 = xN at n1 cr
            generalize sure.getD k 0 = xS at s1 cl
            have HH := Lib.hid (fun W (h : Below wo.heap.size wo W) => (⟨h, held_cell x0 h, held_cell x1 h, held_cell x2 h, held_cell n1 h, held_cell s1 h⟩ : Below wo.heap.size wo W ∧ W.cell? ⟨b, 0, none⟩ = some (.slice A n' C') ∧ W.cell? ⟨b, 1, none⟩ = some (.slice B m' D') ∧ W.cell? ⟨b, 2, none⟩ = some (.bool false) ∧ W.cell? ⟨b + 1, k, none⟩ = some (.int .u8 xN) ∧ W.cell? ⟨b + 1 + 1, k, none⟩ = some (.int .u8 xS)))
            clear x0 x1 x2 n1 s1 hb4
            go_upto_region 25 with fail
            refine wp_region_held_drew (S := (fun W => (Below wo.heap.size wo W ∧ W.cell? ⟨b, 0, none⟩ = some (.slice A n' C') ∧ W.cell? ⟨b, 1, none⟩ = some (.slice B m' D') ∧ W.cell? ⟨b, 2, none⟩ = some (.bool false) ∧ W.cell? ⟨b + 1, k, none⟩ = some (.int .u8 xN) ∧ W.cell? ⟨b + 1 + 1, k, none⟩ = some (.int .u8 xS)))) (by kernel_rfl) ?_ (fun hHeld => ?_)
            · first | exact HH.out _ hb5.drew | exact HH.out _ (hHeld.1.trans (hbv.mono hHeld.1.size)) | exact HH.out _ hb5 | assumption
            refine wpAnyH_take (i := 0) (v := ?_) rfl (by kernel_rfl) (by kernel_rfl) (by kernel_rfl) (fun _ _ _ h => h) (Or.inl ⟨by rfl, ?_⟩) (by assumption) ?_
            rotate_left
            · (intro w hSw; (try dsimp only at hSw); go_simp; try with_reducible rfl)
            try simp only [Act.put, List.setIfInBounds_toArray]
            refine wpAnyH_take (i := 1) (v := ?_) rfl (by kernel_rfl) (by kernel_rfl) (by kernel_rfl) (fun _ _ _ h => h) (Or.inl ⟨by rfl, ?_⟩) (by assumption) ?_
            rotate_left
            · (intro w hSw; (try dsimp only at hSw); go_simp; try with_reducible rfl)
            try simp only [Act.put]
            refine wpAnyH_take (i := 2) (v := ?_) rfl (by kernel_rfl) (by kernel_rfl) (by kernel_rfl) (fun _ _ _ h => h) (Or.inl ⟨by rfl, ?_⟩) (by assumption) ?_
            rotate_left
            · (intro w hSw; (try dsimp only at hSw); go_simp; try with_reducible rfl)
            try simp only [Act.put]
            refine wpAnyH_take (i := 3) (v := ?_) rfl (by kernel_rfl) (by kernel_rfl) (by kernel_rfl) (fun _ _ _ h => h) (Or.inl ⟨by rfl, ?_⟩) (by assumption) ?_
            rotate_left
            · (intro w hSw; (try dsimp only at hSw); go_simp; try with_reducible rfl)
            try simp only [Act.put]
            refine wpAnyH_take (i := 4) (v := ?_) rfl (by kernel_rfl) (by kernel_rfl) (by kernel_rfl) (fun _ _ _ h => h) (Or.inl ⟨by rfl, ?_⟩) (by assumption) ?_
            rotate_left
            · (intro w hSw; (try dsimp only at hSw); go_simp; try with_reducible rfl)
            try simp only [Act.put]
            refine wpAnyH_ready (rs := [5]) (by kernel_rfl) (by simp) ?_
            refine AllReadyH.cons rfl (fun K hK => ?_) AllReadyH.nil
            go_simp
            (with_reducible refine (cr _ hHeld.1).mono ?_)
            rintro e v9 ⟨rfl, hbv⟩
            go_wp2_with fail
            refine hK.out _ _ ?_ (fun hHeld2 => ?_)
            · first | exact HH.out _ hb5.drew | exact HH.out _ (hHeld.1.trans (hbv.mono hHeld.1.size)) | exact HH.out _ hb5 | assumption
            clear hK K hHeld
            have hHeld := hHeld2
            clear hHeld2
            try simp only [Act.put, List.setIfInBounds_toArray, List.set_cons_zero, List.set_cons_succ]
            refine wpAnyH_take (i := 6) (v := ?_) rfl (by kernel_rfl) (by kernel_rfl) (by kernel_rfl) (fun _ _ _ h => h) (Or.inl ⟨by rfl, ?_⟩) (by assumption) ?_
            rotate_left
            · (intro w hSw; (try dsimp only at hSw); go_simp; try with_reducible rfl)
            try simp only [Act.put, List.setIfInBounds_toArray]
            refine wpAnyH_take (i := 7) (v := ?_) rfl (by kernel_rfl) (by kernel_rfl) (by kernel_rfl) (fun _ _ _ h => h) (Or.inl ⟨by rfl, ?_⟩) (by assumption) ?_
            rotate_left
            · (intro w hSw; (try dsimp only at hSw); go_simp; try with_reducible rfl)
            try simp only [Act.put]
            refine wpAnyH_take (i := 8) (v := ?_) rfl (by kernel_rfl) (by kernel_rfl) (by kernel_rfl) (fun _ _ _ h => h) (Or.inl ⟨by rfl, ?_⟩) (by assumption) ?_
            rotate_left
            · (intro w hSw; (try dsimp only at hSw); go_simp; try with_reducible rfl)
            try simp only [Act.put]
            refine wpAnyH_take (i := 9) (v := ?_) rfl (by kernel_rfl) (by kernel_rfl) (by kernel_rfl) (fun _ _ _ h => h) (Or.inl ⟨by rfl, ?_⟩) (by assumption) ?_
            rotate_left
            · (intro w hSw; (try dsimp only at hSw); go_simp; try with_reducible rfl)
            try simp only [Act.put]
            refine wpAnyH_take (i := 10) (v := ?_) rfl (by kernel_rfl) (by kernel_rfl) (by kernel_rfl) (fun _ _ _ h => h) (Or.inl ⟨by rfl, ?_⟩) (by assumption) ?_
            rotate_left
            · (intro w hSw; (try dsimp only at hSw); go_simp; try with_reducible rfl)
            try simp only [Act.put]
            refine wpAnyH_take (i := 11) (v := ?_) rfl (by kernel_rfl) (by kernel_rfl) (by kernel_rfl) (fun _ _ _ h => h) (Or.inl ⟨by rfl, ?_⟩) (by assumption) ?_
            rotate_left
            · (intro w hSw; (try dsimp only at hSw); go_simp; try with_reducible rfl)
            try simp only [Act.put]
            refine wpAnyH_take (i := 12) (v := ?_) rfl (by kernel_rfl) (by kernel_rfl) (by kernel_rfl) (fun _ _ _ h => h) (Or.inl ⟨by rfl, ?_⟩) (by assumption) ?_
            rotate_left
            · (intro w hSw; (try dsimp only at hSw); go_simp; try with_reducible rfl)
            try simp only [Act.put]
            refine wpAnyH_ready (rs := [13]) (by kernel_rfl) (by simp) ?_
            refine AllReadyH.cons rfl (fun K hK => ?_) AllReadyH.nil
            go_simp
            (with_reducible refine (cl _ hHeld.1).mono ?_)
            rintro e v9 ⟨rfl, hbv⟩
            go_wp2_with fail
            refine hK.out _ _ ?_ (fun hHeld2 => ?_)
            · first | exact HH.out _ hb5.drew | exact HH.out _ (hHeld.1.trans (hbv.mono hHeld.1.size)) | exact HH.out _ hb5 | assumption
            clear hK K hHeld
            have hHeld := hHeld2
            clear hHeld2
            try simp only [Act.put, List.setIfInBounds_toArray, List.set_cons_zero, List.set_cons_succ]
            refine wpAnyH_take (i := 14) (v := ?_) rfl (by kernel_rfl) (by kernel_rfl) (by kernel_rfl) (fun _ _ _ h => h) (Or.inl ⟨by rfl, ?_⟩) (by assumption) ?_
            rotate_left
            · (intro w hSw; (try dsimp only at hSw); go_simp; try with_reducible rfl)
            try simp only [Act.put, List.setIfInBounds_toArray]
            refine wpAnyH_take (i := 15) (v := ?_) rfl (by kernel_rfl) (by kernel_rfl) (by kernel_rfl) (fun _ _ _ h => h) (Or.inl ⟨by rfl, ?_⟩) (by assumption) ?_
            rotate_left
            · (intro w hSw; (try dsimp only at hSw); go_simp; try with_reducible rfl)
            try simp only [Act.put]
            refine wpAnyH_done (by kernel_rfl) ?_ _
            have hb7 := hHeld.1
            clear hHeld HH cr cl
            go_wp2
            go_roundw
            case rel => exact ⟨k + 1, by omega, by go_num, hb7⟩
            case measure => simp [intOf]; omega
          · obtain rfl : k = 4 := by omega
            rcases dies with _ | _
            · go_wp2
              go_ret
              exact ⟨rfl, hBw.trans (hb5.mono hBw.size)⟩
            · have y0 := held_cell x0 hb5
              have y1 := held_cell x1 hb5
              have y2 := held_cell x2 hb5
              have cg := gone_calls _ _ dv (hN.below hb5).devV hT'.out.1
              clear x0 x1 x2
              go_wp2_with fail
              (with_reducible refine cg.mono ?_)
              rintro e w6 ⟨rfl, hb6⟩
              go_wp2
              go_ret
              exact ⟨rfl, hBw.trans ((hb5.trans (hb6.mono hb5.size)).mono hBw.size)⟩

namespace diskReads
set_option linter.unusedVariables false
set_option maxRecDepth 100000 in
theorem lifted (os : Os) (started : os.Started) (H : Type) (enc : TypeId × Value → H) :
    ReturnsInHanded {} Try.checked os 6 .any (Rows.diskReadsSpec.pre6 enc Try.prog Try.f6 Rows.diskReadsRow.domain false) (Rows.diskReadsSpec.post enc Try.prog Try.f6 false true false false) := by
  refine returnsInHanded_of_change (C := Try.checked) Try.own started (by kernel_rfl) Try.func6
    (ChangeSpec.witness6 (enc := enc) (C := Try.checked) false ⟨#[], #[.slice none 0 0, .bool false], []⟩ 8 (by kernel_rfl) (by kernel_rfl) (by kernel_rfl) (by kernel_rfl)) ?_
  intro W base args ds gs before hval0 hW hcnd _
  have hval : ∀ (j : Nat) t v, Try.f6.params[j]? = some t → args[j]? = some v → Value.okWide Try.prog W .any base t v := hval0
  have hW' := hW
  obtain ⟨p, q, hA0, hV, rfl, hfz, hnd⟩ := hW
  have hA : DataW.TrodAll enc Try.prog W 0 (fun _ => true) true Try.f6.params.toList args.toList ds p := hA0
  rw [Try.params6] at hA hval
  obtain ⟨v0, vs0, d0, ds0, p0, q0, hargs, rfl, rfl, h0, r0⟩ := trodAll_cons hA
  obtain ⟨v1, vs1, d1, ds1, p1, q1, rfl, rfl, rfl, h1, r1⟩ := trodAll_cons r0
  obtain ⟨rfl, rfl, rfl⟩ := trodAll_nil r1
  obtain rfl : args = #[v0, v1] := by cases args; simp_all
  obtain ⟨rfl, rfl⟩ := trodVars_none hV
  obtain ⟨a0, len0, cap0, rfl⟩ := okWide_slice Try.underlying50 (hval 0 50 v0 rfl rfl)
  have k0 := h0
  have lt0 : ∀ x ∈ p0, x.block < W.heap.size := by obtain ⟨m, hm⟩ := k0; exact DataW.trod_lt m _ _ _ hm
  obtain ⟨z0, w0, c0⟩ := ops_in h0
  obtain ⟨a1, rfl, rfl, rfl⟩ := open_bool Try.underlying4 (hval 1 4 v1 rfl rfl) h1
  clear hA0 hval0
  refine (diskReads_walk W a0 len0 cap0 z0 w0 c0 a1).mono fun e W' ⟨he, bel⟩ => ?_
  subst he
  exact ⟨_, rfl, _, _, _, [], _, [], hW', trodAll_mk1 (shut_bool Try.underlying4 _), (trodAll_cons_mk (Below.trod Try.laidOut (by kernel_rfl) (of_decide_eq_true (by kernel_rfl)) k0 bel lt0) (trodAll_cons_mk (shut_bool Try.underlying4 a1) trodAll_mk0)), rfl, bel.frame _, fun h => by cases h⟩

theorem holds : Rows.DiskReadsSaid :=
  OpenClaim.holds_of_wide 6 Try.f6 rfl rfl rfl rfl rfl rfl rfl ⟨rfl, rfl, rfl, rfl, rfl⟩ rfl rfl rfl rfl rfl (by kernel_rfl) Try.func6 (by kernel_rfl)
    (of_decide_eq_true (by kernel_rfl)) (by unfold Func.isWrapper; first | (rw [if_pos (by decide +kernel)]; kernel_rfl) | (rw [if_neg (by decide +kernel)]; exact ⟨rfl, rfl⟩))
    (fun os started H enc _ => lifted os started H enc)
end diskReads
end Go.Proofs.Ytedgjnmjpgmffaa
