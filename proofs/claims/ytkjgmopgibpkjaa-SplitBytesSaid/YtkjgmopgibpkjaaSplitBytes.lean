/- freeboardlaw08.SplitBytes: for every input the law answers true, and what is handed in reads as it did. Conditions: none. -/
import Derived.Test.YtkjgmopgibpkjaaSplitAlive
import Derived.Test.YtkjgmopgibpkjaaSplitRef
namespace Go.Proofs.Ytkjgmopgibpkjaa
open Go.ChangeShapes Go.WideShapes Go.ChangeAt Go.RowKit ShapeM SplitM
set_option linter.unusedVariables false
set_option maxRecDepth 100000 in
set_option maxHeartbeats 4000000 in
theorem bytes_g (id m ch ro lo he k a mn : Int) (A : Option Addr) (n cp : Nat) (ka : ∀ W, Calls Try.prog 14 #[] W fun e w' => e = .returned (.bool true) ∧ Below W.heap.size W w') (h : 5000 < n) (w : World) : Calls Try.prog 8 #[.agg #[.int .u32 id, .int .i64 m, .int .i64 ch, .int .i64 ro, .int .i64 lo, .int .i64 he], .agg #[.int .u8 k, .int .i64 a, .int .i64 mn, .slice A n cp]] w fun e w' => e = .returned (.bool true) ∧ Below w.heap.size w w' := by
  have B := Box6.new w (.int .u32 id) (.int .i64 m) (.int .i64 ch) (.int .i64 ro) (.int .i64 lo) (.int .i64 he) 24
  have hb : Below w.heap.size w (w.alloc (.cells #[.int .u32 id, .int .i64 m, .int .i64 ch, .int .i64 ro, .int .i64 lo, .int .i64 he] 24 (0, 0))) := (Below.refl _ _).alloc (Nat.le_refl _) _
  replace B := B.alloc (.cells #[.int .u8 k, .int .i64 a, .int .i64 mn, .slice A n cp] 32 (0, 0))
  have G := CellsAt.new (w.alloc (.cells #[.int .u32 id, .int .i64 m, .int .i64 ch, .int .i64 ro, .int .i64 lo, .int .i64 he] 24 (0, 0))) [.int .u8 k, .int .i64 a, .int .i64 mn, .slice A n cp] 32
  replace hb := hb.alloc hb.size (.cells #[.int .u8 k, .int .i64 a, .int .i64 mn, .slice A n cp] 32 (0, 0))
  simp only [World.size_alloc] at G
  obtain ⟨c0, c1, c2, c3, c4, c5⟩ := B.all
  obtain ⟨g0, g1, g2, g3⟩ := G.all4
  go_enter Try.func8, Try.ntmps8
  go_wp2_with (first
    | (go_at_call 14; refine (ka _).mono ?_; rintro e w2 ⟨rfl, hb2⟩; replace hb := hb.trans (hb2.mono hb.size); clear c0 c1 c2 c3 c4 c5 g0 g1 g2 g3; replace B := B.below hb2 (Nat.le_refl _); replace G := G.below hb2 (Nat.le_refl _); clear hb2; obtain ⟨c0, c1, c2, c3, c4, c5⟩ := B.all; obtain ⟨g0, g1, g2, g3⟩ := G.all4; have blt := B.lt; have glt := G.lt))
  go_ret
  exact ⟨rfl, hb⟩
set_option maxRecDepth 100000 in
set_option maxHeartbeats 4000000 in
theorem bytes_c (id m ch ro lo he k a mn : Int) (A : Option Addr) (n cp : Nat) (ka : ∀ W, Calls Try.prog 14 #[] W fun e w' => e = .returned (.bool true) ∧ Below W.heap.size W w') (h : n ≤ 5000) (E : Int) (hE : (E == 0) = false) (hE2 : (E != 0) = true) (hc : ∀ W, Calls Try.prog 13 #[.agg #[.int .u32 id, .int .i64 m, .int .i64 ch, .int .i64 ro, .int .i64 lo, .int .i64 he], .agg #[.int .u8 k, .int .i64 a, .int .i64 mn, .slice A n cp]] W fun e w' => e = .returned (.int .i64 E) ∧ Below W.heap.size W w') (w : World) : Calls Try.prog 8 #[.agg #[.int .u32 id, .int .i64 m, .int .i64 ch, .int .i64 ro, .int .i64 lo, .int .i64 he], .agg #[.int .u8 k, .int .i64 a, .int .i64 mn, .slice A n cp]] w fun e w' => e = .returned (.bool true) ∧ Below w.heap.size w w' := by
  have B := Box6.new w (.int .u32 id) (.int .i64 m) (.int .i64 ch) (.int .i64 ro) (.int .i64 lo) (.int .i64 he) 24
  have hb : Below w.heap.size w (w.alloc (.cells #[.int .u32 id, .int .i64 m, .int .i64 ch, .int .i64 ro, .int .i64 lo, .int .i64 he] 24 (0, 0))) := (Below.refl _ _).alloc (Nat.le_refl _) _
  replace B := B.alloc (.cells #[.int .u8 k, .int .i64 a, .int .i64 mn, .slice A n cp] 32 (0, 0))
  have G := CellsAt.new (w.alloc (.cells #[.int .u32 id, .int .i64 m, .int .i64 ch, .int .i64 ro, .int .i64 lo, .int .i64 he] 24 (0, 0))) [.int .u8 k, .int .i64 a, .int .i64 mn, .slice A n cp] 32
  replace hb := hb.alloc hb.size (.cells #[.int .u8 k, .int .i64 a, .int .i64 mn, .slice A n cp] 32 (0, 0))
  simp only [World.size_alloc] at G
  obtain ⟨c0, c1, c2, c3, c4, c5⟩ := B.all
  obtain ⟨g0, g1, g2, g3⟩ := G.all4
  go_enter Try.func8, Try.ntmps8
  go_wp2_with (first
    | (go_at_call 14; refine (ka _).mono ?_; rintro e w2 ⟨rfl, hb2⟩; replace hb := hb.trans (hb2.mono hb.size); clear c0 c1 c2 c3 c4 c5 g0 g1 g2 g3; replace B := B.below hb2 (Nat.le_refl _); replace G := G.below hb2 (Nat.le_refl _); clear hb2; obtain ⟨c0, c1, c2, c3, c4, c5⟩ := B.all; obtain ⟨g0, g1, g2, g3⟩ := G.all4; have blt := B.lt; have glt := G.lt)
    | (go_at_call 13; (with_reducible refine (hc _).mono ?_); rintro e w3 ⟨rfl, hb2⟩; replace hb := hb.trans (hb2.mono hb.size); clear c0 c1 c2 c3 c4 c5 g0 g1 g2 g3; replace B := B.below hb2 (Nat.le_refl _); replace G := G.below hb2 (Nat.le_refl _); clear hb2; obtain ⟨c0, c1, c2, c3, c4, c5⟩ := B.all; obtain ⟨g0, g1, g2, g3⟩ := G.all4; have blt := B.lt; have glt := G.lt))
  go_ret
  exact ⟨rfl, hb⟩

theorem bytes_two {w w2 : World} {n : Nat} {zs : List Int} {v2 : Value} (own2 : w2.ownsRow w.heap.size 5 1 v2 (0 + n) ([] ++ zs.map (Value.int .u8))) (hg2 : w.grownBy w2 (Value.slice none 0 0).ownBlock) :
    ∃ A2 C2, v2 = .slice A2 n C2 ∧ Below w.heap.size w w2 ∧ (w2.alloc (.cells #[.int .u8 0] 5 (0, 0))).ownsRow w.heap.size 5 1 v2 n (zs.map (Value.int .u8)) ∧ Row (w2.alloc (.cells #[.int .u8 0] 5 (0, 0))) 1 (some ⟨w2.heap.size, 0, none⟩) 1 [.int .u8 0] ∧ ∀ q, v2.ownBlock = some q → w.heap.size ≤ q := by
  have hb2 := (Below.refl w.heap.size w).grown hg2 (Nat.le_refl _) (by simp [Value.ownBlock])
  rw [Nat.zero_add, List.nil_append] at own2
  have own3 := ownI_below own2 ((Below.refl _ _).alloc (Nat.le_refl _) (.cells #[.int .u8 0] 5 (0, 0)))
  obtain ⟨A2, C2, e2, _, _, hA2⟩ := own_form own2
  have hg : (w2.alloc (.cells #[.int .u8 0] 5)).heap[w2.heap.size]? = some (.cells #[.int .u8 0] 5 (0, 0)) := heap_alloc_new _ _
  refine ⟨A2, C2, e2, hb2, own3, ⟨rfl, .inr ⟨w2.heap.size, 0, rfl, by simp, fun i v hv => ?_⟩⟩, fun q hq => ?_⟩
  · rw [cell_of_row _ _ _ _ _ _ hg, Nat.zero_add, ← hv, ← Array.getElem?_toList]
  · rw [e2] at hq
    rcases A2 with _ | x
    · simp [Value.ownBlock] at hq
    · simp [Value.ownBlock] at hq
      rw [← hq]
      exact hA2 x rfl
theorem bytes_three {w w2 w7 : World} {n : Nat} {xs : List Value} {v2 v7 : Value} (own7 : w7.ownsRow w.heap.size 5 1 v7 (n + 1) xs) (hg7 : (w2.alloc (.cells #[.int .u8 0] 5 (0, 0))).grownBy w7 v2.ownBlock) (f6 : Below w.heap.size w w2) (hge : ∀ q, v2.ownBlock = some q → w.heap.size ≤ q) :
    ∃ A7 C7, v7 = .slice A7 (n + 1) C7 ∧ Below w.heap.size w w7 := by
  obtain ⟨A7, C7, e7, _, _, _⟩ := own_form own7
  exact ⟨A7, C7, e7, below_own (f6.alloc f6.size _) hg7 rfl hge (Nat.le_trans f6.size (by simp))⟩
set_option maxRecDepth 100000 in
set_option maxHeartbeats 4000000 in
theorem bytes_n0 (id m ch ro lo he k a mn : Int) (A : Option Addr) (n cp : Nat) (ka : ∀ W, Calls Try.prog 14 #[] W fun e w' => e = .returned (.bool true) ∧ Below W.heap.size W w') (w : World) (h : n ≤ 5000) (zs : List Int) (I : Ints .u8 w A n zs) (hn : Hid (n = 0)) (d2 : ((n : Int) == 0) = true) (hc : ∀ W, Calls Try.prog 13 #[.agg #[.int .u32 id, .int .i64 m, .int .i64 ch, .int .i64 ro, .int .i64 lo, .int .i64 he], .agg #[.int .u8 k, .int .i64 a, .int .i64 mn, .slice A n cp]] W fun e w' => e = .returned (.int .i64 0) ∧ Below W.heap.size W w') (hm3 : ∀ A' c', ∀ W, Calls Try.prog 13 #[.agg #[.int .u32 id, .int .i64 m, .int .i64 ch, .int .i64 ro, .int .i64 lo, .int .i64 he], .agg #[.int .u8 k, .int .i64 a, .int .i64 mn, .slice A' (n + 1) c']] W fun e w' => e = .returned (.int .i64 3) ∧ Below W.heap.size W w') : Calls Try.prog 8 #[.agg #[.int .u32 id, .int .i64 m, .int .i64 ch, .int .i64 ro, .int .i64 lo, .int .i64 he], .agg #[.int .u8 k, .int .i64 a, .int .i64 mn, .slice A n cp]] w fun e w' => e = .returned (.bool true) ∧ Below w.heap.size w w' := by
  obtain ⟨i0, hi0, hz0, hz1, hz2⟩ := info_parts (show (Try.prog.info? 5).map (fun i => (i.zero, i.size, i.bytes)) = some (some (.int .u8 0), 1, 1) by kernel_rfl)
  have B := Box6.new w (.int .u32 id) (.int .i64 m) (.int .i64 ch) (.int .i64 ro) (.int .i64 lo) (.int .i64 he) 24
  have hb : Below w.heap.size w (w.alloc (.cells #[.int .u32 id, .int .i64 m, .int .i64 ch, .int .i64 ro, .int .i64 lo, .int .i64 he] 24 (0, 0))) := (Below.refl _ _).alloc (Nat.le_refl _) _
  replace B := B.alloc (.cells #[.int .u8 k, .int .i64 a, .int .i64 mn, .slice A n cp] 32 (0, 0))
  have G := CellsAt.new (w.alloc (.cells #[.int .u32 id, .int .i64 m, .int .i64 ch, .int .i64 ro, .int .i64 lo, .int .i64 he] 24 (0, 0))) [.int .u8 k, .int .i64 a, .int .i64 mn, .slice A n cp] 32
  replace hb := hb.alloc hb.size (.cells #[.int .u8 k, .int .i64 a, .int .i64 mn, .slice A n cp] 32 (0, 0))
  simp only [World.size_alloc] at G
  obtain ⟨c0, c1, c2, c3, c4, c5⟩ := B.all
  obtain ⟨g0, g1, g2, g3⟩ := G.all4
  go_enter Try.func8, Try.ntmps8
  go_wp2_with (first
    | (go_at_call 14; refine (ka _).mono ?_; rintro e w2 ⟨rfl, hb2⟩; replace hb := hb.trans (hb2.mono hb.size); clear c0 c1 c2 c3 c4 c5 g0 g1 g2 g3; replace B := B.below hb2 (Nat.le_refl _); replace G := G.below hb2 (Nat.le_refl _); clear hb2; obtain ⟨c0, c1, c2, c3, c4, c5⟩ := B.all; obtain ⟨g0, g1, g2, g3⟩ := G.all4; have blt := B.lt; have glt := G.lt)
    | (go_at_call 13; (with_reducible refine (hc _).mono ?_); rintro e w3 ⟨rfl, hb2⟩; replace hb := hb.trans (hb2.mono hb.size); clear c0 c1 c2 c3 c4 c5 g0 g1 g2 g3; replace B := B.below hb2 (Nat.le_refl _); replace G := G.below hb2 (Nat.le_refl _); clear hb2; obtain ⟨c0, c1, c2, c3, c4, c5⟩ := B.all; obtain ⟨g0, g1, g2, g3⟩ := G.all4; have blt := B.lt; have glt := G.lt))
  go_region
  · have hlt3 : Hid (w.heap.size + 1 < w3.heap.size) := G.lt
    have X := (CellsAt.new w3 [.int .u8 k, .int .i64 a, .int .i64 mn, .slice A n cp] 32).alloc (.cells #[.int .u8 k, .int .i64 a, .int .i64 mn, .slice A n cp] 32 (0, 0))
    have Y := CellsAt.new (w3.alloc (.cells #[.int .u8 k, .int .i64 a, .int .i64 mn, .slice A n cp] 32 (0, 0))) [.int .u8 k, .int .i64 a, .int .i64 mn, .slice A n cp] 32
    simp only [World.size_alloc] at Y
    have f5 : Below w3.heap.size w3 (((w3.alloc (.cells #[.int .u8 k, .int .i64 a, .int .i64 mn, .slice A n cp] 32 (0, 0))).alloc (.cells #[.int .u8 k, .int .i64 a, .int .i64 mn, .slice A n cp] 32 (0, 0))).drew) := (((Below.refl _ _).alloc (Nat.le_refl _) _).alloc (by simp) _).drew
    have f6 : Below ((w3.alloc (.cells #[.int .u8 k, .int .i64 a, .int .i64 mn, .slice A n cp] 32 (0, 0))).alloc (.cells #[.int .u8 k, .int .i64 a, .int .i64 mn, .slice A n cp] 32 (0, 0))).heap.size ((w3.alloc (.cells #[.int .u8 k, .int .i64 a, .int .i64 mn, .slice A n cp] 32 (0, 0))).alloc (.cells #[.int .u8 k, .int .i64 a, .int .i64 mn, .slice A n cp] 32 (0, 0))) (((w3.alloc (.cells #[.int .u8 k, .int .i64 a, .int .i64 mn, .slice A n cp] 32 (0, 0))).alloc (.cells #[.int .u8 k, .int .i64 a, .int .i64 mn, .slice A n cp] 32 (0, 0))).drew) := (Below.refl _ _).drew
    replace X := X.below f6 (Nat.le_refl _)
    replace Y := Y.below f6 (Nat.le_refl _)
    replace hb := hb.trans (f5.mono hb.size)
    replace B := B.below f5 (Nat.le_refl _)
    replace G := G.below f5 (Nat.le_refl _)
    clear c0 c1 c2 c3 c4 c5 g0 g1 g2 g3 f5 f6 blt glt
    generalize ((w3.alloc (.cells #[.int .u8 k, .int .i64 a, .int .i64 mn, .slice A n cp] 32 (0, 0))).alloc (.cells #[.int .u8 k, .int .i64 a, .int .i64 mn, .slice A n cp] 32 (0, 0))).drew = w5 at *
    obtain ⟨s, es⟩ : ∃ s, s = w3.heap.size := ⟨_, rfl⟩
    rw [← es] at X Y hlt3 ⊢
    clear es
    obtain ⟨c0, c1, c2, c3, c4, c5⟩ := B.all
    obtain ⟨g0, g1, g2, g3⟩ := G.all4
    have hI := I.below hb (Nat.le_refl _)
    have hr0 := hI.toRow
    have hbl := Lib.hid hI.max
    have glt := G.lt
    have xlt := X.lt
    have ylt := Y.lt
    go_wp2_with (first
      | (at_builtin; refine wpList_append_row _ rfl (.const (.slice none 0 0)) (.tmp 23) _ rfl w5.heap.size 5 i0 _ 1 1 Try.underlying30 hi0 hz0 hz1 hz2 rfl (by omega) (.slice none 0 0) 0 [] rfl (World.ownsRow_nil _ _ _ _) A n cp _ rfl hr0 (by simp [Value.oneCell']) (by simp only [maxLen]; omega) (by omega) (Nat.le_refl _) ?_; intro v2 w6 own2 hg2 _; obtain ⟨A2, C2, rfl, f6, own3, hr3, hge⟩ := bytes_two own2 hg2)
      | (at_builtin; refine wpList_append_row _ rfl (.tmp 24) (.tmp 25) _ rfl w5.heap.size 5 i0 _ 1 1 Try.underlying30 hi0 hz0 hz1 hz2 rfl (by omega) _ n _ rfl own3 (some ⟨w6.heap.size, 0, none⟩) 1 1 [.int .u8 0] rfl hr3 (by simp [Value.oneCell']) (by simp only [maxLen]; omega) (by omega) (Nat.le_trans f6.size (by simp)) ?_; intro v7 w7 own7 hg7 _; obtain ⟨A7, C7, rfl, f7⟩ := bytes_three own7 hg7 f6 hge; clear own2 hg2 own3 hr3 own7 hg7 f6 hge hr0; replace hb := hb.trans (f7.mono hb.size); clear c0 c1 c2 c3 c4 c5 g0 g1 g2 g3 glt xlt ylt; replace B := B.below f7 (Nat.le_refl _); replace G := G.below f7 (Nat.le_refl _); replace X := X.below f7 (Nat.le_refl _); replace Y := Y.below f7 (Nat.le_refl _); clear f7; obtain ⟨c0, c1, c2, c3, c4, c5⟩ := B.all; obtain ⟨g0, g1, g2, g3⟩ := G.all4; obtain ⟨x0, x1, x2, x3⟩ := X.all4; obtain ⟨y0, y1, y2, y3⟩ := Y.all4; have xf := X.fr; have yf := Y.fr; have blt := B.lt; have glt := G.lt; have xlt := X.lt; have ylt := Y.lt; have n1 : s ≠ w.heap.size := (by have := hlt3.out; omega); have n2 : s ≠ w.heap.size + 1 := (by have := hlt3.out; omega); have n3 : s + 1 ≠ w.heap.size := (by have := hlt3.out; omega); have n4 : s + 1 ≠ w.heap.size + 1 := (by have := hlt3.out; omega))
      | (go_at_call 13; (with_reducible refine (hm3 _ _ _).mono ?_); rintro e w8 ⟨rfl, hb2⟩; replace B := (B.other (p := ⟨s, 3, none⟩) (by have := hlt3.out; dsimp only; omega) (.slice A7 (n + 1) C7)).below hb2 (Nat.le_refl _); replace G := (G.other (p := ⟨s, 3, none⟩) (by have := hlt3.out; dsimp only; omega) (.slice A7 (n + 1) C7)).below hb2 (Nat.le_refl _); replace hb := (hb.setCell (p := ⟨s, 3, none⟩) (by have := hlt3.out; dsimp only; omega) (.slice A7 (n + 1) C7)).trans (hb2.mono (by have := hb.size; first | (simp; done) | (simp; omega))); clear c0 c1 c2 c3 c4 c5 g0 g1 g2 g3 x0 x1 x2 x3 y0 y1 y2 y3 X Y; obtain ⟨c0, c1, c2, c3, c4, c5⟩ := B.all; obtain ⟨g0, g1, g2, g3⟩ := G.all4))
    all_goals first
      | (go_ret; exact ⟨rfl, hb⟩)
      | (exfalso; have := hn.out; omega)
  · have hlt3 : Hid (w.heap.size + 1 < w3.heap.size) := G.lt
    have X := (CellsAt.new w3 [.int .u8 k, .int .i64 a, .int .i64 mn, .slice A n cp] 32).alloc (.cells #[.int .u8 k, .int .i64 a, .int .i64 mn, .slice A n cp] 32 (0, 0))
    have Y := CellsAt.new (w3.alloc (.cells #[.int .u8 k, .int .i64 a, .int .i64 mn, .slice A n cp] 32 (0, 0))) [.int .u8 k, .int .i64 a, .int .i64 mn, .slice A n cp] 32
    simp only [World.size_alloc] at Y
    have f5 : Below w3.heap.size w3 (((w3.alloc (.cells #[.int .u8 k, .int .i64 a, .int .i64 mn, .slice A n cp] 32 (0, 0))).alloc (.cells #[.int .u8 k, .int .i64 a, .int .i64 mn, .slice A n cp] 32 (0, 0))).drew) := (((Below.refl _ _).alloc (Nat.le_refl _) _).alloc (by simp) _).drew
    have f6 : Below ((w3.alloc (.cells #[.int .u8 k, .int .i64 a, .int .i64 mn, .slice A n cp] 32 (0, 0))).alloc (.cells #[.int .u8 k, .int .i64 a, .int .i64 mn, .slice A n cp] 32 (0, 0))).heap.size ((w3.alloc (.cells #[.int .u8 k, .int .i64 a, .int .i64 mn, .slice A n cp] 32 (0, 0))).alloc (.cells #[.int .u8 k, .int .i64 a, .int .i64 mn, .slice A n cp] 32 (0, 0))) (((w3.alloc (.cells #[.int .u8 k, .int .i64 a, .int .i64 mn, .slice A n cp] 32 (0, 0))).alloc (.cells #[.int .u8 k, .int .i64 a, .int .i64 mn, .slice A n cp] 32 (0, 0))).drew) := (Below.refl _ _).drew
    replace X := X.below f6 (Nat.le_refl _)
    replace Y := Y.below f6 (Nat.le_refl _)
    replace hb := hb.trans (f5.mono hb.size)
    replace B := B.below f5 (Nat.le_refl _)
    replace G := G.below f5 (Nat.le_refl _)
    clear c0 c1 c2 c3 c4 c5 g0 g1 g2 g3 f5 f6 blt glt
    generalize ((w3.alloc (.cells #[.int .u8 k, .int .i64 a, .int .i64 mn, .slice A n cp] 32 (0, 0))).alloc (.cells #[.int .u8 k, .int .i64 a, .int .i64 mn, .slice A n cp] 32 (0, 0))).drew = w5 at *
    obtain ⟨s, es⟩ : ∃ s, s = w3.heap.size := ⟨_, rfl⟩
    rw [← es] at X Y hlt3 ⊢
    clear es
    obtain ⟨c0, c1, c2, c3, c4, c5⟩ := B.all
    obtain ⟨g0, g1, g2, g3⟩ := G.all4
    have hI := I.below hb (Nat.le_refl _)
    have hr0 := hI.toRow
    have hbl := Lib.hid hI.max
    have glt := G.lt
    have xlt := X.lt
    have ylt := Y.lt
    go_wp2_with (first
      | (at_builtin; refine wpList_append_row _ rfl (.const (.slice none 0 0)) (.tmp 23) _ rfl w5.heap.size 5 i0 _ 1 1 Try.underlying30 hi0 hz0 hz1 hz2 rfl (by omega) (.slice none 0 0) 0 [] rfl (World.ownsRow_nil _ _ _ _) A n cp _ rfl hr0 (by simp [Value.oneCell']) (by simp only [maxLen]; omega) (by omega) (Nat.le_refl _) ?_; intro v2 w6 own2 hg2 _; obtain ⟨A2, C2, rfl, f6, own3, hr3, hge⟩ := bytes_two own2 hg2)
      | (at_builtin; refine wpList_append_row _ rfl (.tmp 24) (.tmp 25) _ rfl w5.heap.size 5 i0 _ 1 1 Try.underlying30 hi0 hz0 hz1 hz2 rfl (by omega) _ n _ rfl own3 (some ⟨w6.heap.size, 0, none⟩) 1 1 [.int .u8 0] rfl hr3 (by simp [Value.oneCell']) (by simp only [maxLen]; omega) (by omega) (Nat.le_trans f6.size (by simp)) ?_; intro v7 w7 own7 hg7 _; obtain ⟨A7, C7, rfl, f7⟩ := bytes_three own7 hg7 f6 hge; clear own2 hg2 own3 hr3 own7 hg7 f6 hge hr0; replace hb := hb.trans (f7.mono hb.size); clear c0 c1 c2 c3 c4 c5 g0 g1 g2 g3 glt xlt ylt; replace B := B.below f7 (Nat.le_refl _); replace G := G.below f7 (Nat.le_refl _); replace X := X.below f7 (Nat.le_refl _); replace Y := Y.below f7 (Nat.le_refl _); clear f7; obtain ⟨c0, c1, c2, c3, c4, c5⟩ := B.all; obtain ⟨g0, g1, g2, g3⟩ := G.all4; obtain ⟨x0, x1, x2, x3⟩ := X.all4; obtain ⟨y0, y1, y2, y3⟩ := Y.all4; have xf := X.fr; have yf := Y.fr; have blt := B.lt; have glt := G.lt; have xlt := X.lt; have ylt := Y.lt; have n1 : s ≠ w.heap.size := (by have := hlt3.out; omega); have n2 : s ≠ w.heap.size + 1 := (by have := hlt3.out; omega); have n3 : s + 1 ≠ w.heap.size := (by have := hlt3.out; omega); have n4 : s + 1 ≠ w.heap.size + 1 := (by have := hlt3.out; omega))
      | (go_at_call 13; (with_reducible refine (hm3 _ _ _).mono ?_); rintro e w8 ⟨rfl, hb2⟩; replace B := (B.other (p := ⟨s + 1, 3, none⟩) (by have := hlt3.out; dsimp only; omega) (.slice A7 (n + 1) C7)).below hb2 (Nat.le_refl _); replace G := (G.other (p := ⟨s + 1, 3, none⟩) (by have := hlt3.out; dsimp only; omega) (.slice A7 (n + 1) C7)).below hb2 (Nat.le_refl _); replace hb := (hb.setCell (p := ⟨s + 1, 3, none⟩) (by have := hlt3.out; dsimp only; omega) (.slice A7 (n + 1) C7)).trans (hb2.mono (by have := hb.size; first | (simp; done) | (simp; omega))); clear c0 c1 c2 c3 c4 c5 g0 g1 g2 g3 x0 x1 x2 x3 y0 y1 y2 y3 X Y; obtain ⟨c0, c1, c2, c3, c4, c5⟩ := B.all; obtain ⟨g0, g1, g2, g3⟩ := G.all4))
    all_goals first
      | (go_ret; exact ⟨rfl, hb⟩)
      | (exfalso; have := hn.out; omega)

set_option maxRecDepth 100000 in
set_option maxHeartbeats 4000000 in
theorem bytes_n1 (id m ch ro lo he k a mn : Int) (A : Option Addr) (n cp : Nat) (ka : ∀ W, Calls Try.prog 14 #[] W fun e w' => e = .returned (.bool true) ∧ Below W.heap.size W w') (w : World) (h : n ≤ 5000) (zs : List Int) (I : Ints .u8 w A n zs) (hn : Hid (1 ≤ n)) (hn1 : 1 ≤ n) (d2 : ((n : Int) == 0) = false) (hc : ∀ W, Calls Try.prog 13 #[.agg #[.int .u32 id, .int .i64 m, .int .i64 ch, .int .i64 ro, .int .i64 lo, .int .i64 he], .agg #[.int .u8 k, .int .i64 a, .int .i64 mn, .slice A n cp]] W fun e w' => e = .returned (.int .i64 0) ∧ Below W.heap.size W w') (hm3 : ∀ A' c', ∀ W, Calls Try.prog 13 #[.agg #[.int .u32 id, .int .i64 m, .int .i64 ch, .int .i64 ro, .int .i64 lo, .int .i64 he], .agg #[.int .u8 k, .int .i64 a, .int .i64 mn, .slice A' (n + 1) c']] W fun e w' => e = .returned (.int .i64 3) ∧ Below W.heap.size W w') (hm4 : ∀ A' c', ∀ W, Calls Try.prog 13 #[.agg #[.int .u32 id, .int .i64 m, .int .i64 ch, .int .i64 ro, .int .i64 lo, .int .i64 he], .agg #[.int .u8 k, .int .i64 a, .int .i64 mn, .slice A' (n - 1) c']] W fun e w' => e = .returned (.int .i64 3) ∧ Below W.heap.size W w') : Calls Try.prog 8 #[.agg #[.int .u32 id, .int .i64 m, .int .i64 ch, .int .i64 ro, .int .i64 lo, .int .i64 he], .agg #[.int .u8 k, .int .i64 a, .int .i64 mn, .slice A n cp]] w fun e w' => e = .returned (.bool true) ∧ Below w.heap.size w w' := by
  obtain ⟨i0, hi0, hz0, hz1, hz2⟩ := info_parts (show (Try.prog.info? 5).map (fun i => (i.zero, i.size, i.bytes)) = some (some (.int .u8 0), 1, 1) by kernel_rfl)
  have B := Box6.new w (.int .u32 id) (.int .i64 m) (.int .i64 ch) (.int .i64 ro) (.int .i64 lo) (.int .i64 he) 24
  have hb : Below w.heap.size w (w.alloc (.cells #[.int .u32 id, .int .i64 m, .int .i64 ch, .int .i64 ro, .int .i64 lo, .int .i64 he] 24 (0, 0))) := (Below.refl _ _).alloc (Nat.le_refl _) _
  replace B := B.alloc (.cells #[.int .u8 k, .int .i64 a, .int .i64 mn, .slice A n cp] 32 (0, 0))
  have G := CellsAt.new (w.alloc (.cells #[.int .u32 id, .int .i64 m, .int .i64 ch, .int .i64 ro, .int .i64 lo, .int .i64 he] 24 (0, 0))) [.int .u8 k, .int .i64 a, .int .i64 mn, .slice A n cp] 32
  replace hb := hb.alloc hb.size (.cells #[.int .u8 k, .int .i64 a, .int .i64 mn, .slice A n cp] 32 (0, 0))
  simp only [World.size_alloc] at G
  obtain ⟨c0, c1, c2, c3, c4, c5⟩ := B.all
  obtain ⟨g0, g1, g2, g3⟩ := G.all4
  go_enter Try.func8, Try.ntmps8
  go_wp2_with (first
    | (go_at_call 14; refine (ka _).mono ?_; rintro e w2 ⟨rfl, hb2⟩; replace hb := hb.trans (hb2.mono hb.size); clear c0 c1 c2 c3 c4 c5 g0 g1 g2 g3; replace B := B.below hb2 (Nat.le_refl _); replace G := G.below hb2 (Nat.le_refl _); clear hb2; obtain ⟨c0, c1, c2, c3, c4, c5⟩ := B.all; obtain ⟨g0, g1, g2, g3⟩ := G.all4; have blt := B.lt; have glt := G.lt)
    | (go_at_call 13; (with_reducible refine (hc _).mono ?_); rintro e w3 ⟨rfl, hb2⟩; replace hb := hb.trans (hb2.mono hb.size); clear c0 c1 c2 c3 c4 c5 g0 g1 g2 g3; replace B := B.below hb2 (Nat.le_refl _); replace G := G.below hb2 (Nat.le_refl _); clear hb2; obtain ⟨c0, c1, c2, c3, c4, c5⟩ := B.all; obtain ⟨g0, g1, g2, g3⟩ := G.all4; have blt := B.lt; have glt := G.lt))
  go_region
  · have hlt3 : Hid (w.heap.size + 1 < w3.heap.size) := G.lt
    have X := (CellsAt.new w3 [.int .u8 k, .int .i64 a, .int .i64 mn, .slice A n cp] 32).alloc (.cells #[.int .u8 k, .int .i64 a, .int .i64 mn, .slice A n cp] 32 (0, 0))
    have Y := CellsAt.new (w3.alloc (.cells #[.int .u8 k, .int .i64 a, .int .i64 mn, .slice A n cp] 32 (0, 0))) [.int .u8 k, .int .i64 a, .int .i64 mn, .slice A n cp] 32
    simp only [World.size_alloc] at Y
    have f5 : Below w3.heap.size w3 (((w3.alloc (.cells #[.int .u8 k, .int .i64 a, .int .i64 mn, .slice A n cp] 32 (0, 0))).alloc (.cells #[.int .u8 k, .int .i64 a, .int .i64 mn, .slice A n cp] 32 (0, 0))).drew) := (((Below.refl _ _).alloc (Nat.le_refl _) _).alloc (by simp) _).drew
    have f6 : Below ((w3.alloc (.cells #[.int .u8 k, .int .i64 a, .int .i64 mn, .slice A n cp] 32 (0, 0))).alloc (.cells #[.int .u8 k, .int .i64 a, .int .i64 mn, .slice A n cp] 32 (0, 0))).heap.size ((w3.alloc (.cells #[.int .u8 k, .int .i64 a, .int .i64 mn, .slice A n cp] 32 (0, 0))).alloc (.cells #[.int .u8 k, .int .i64 a, .int .i64 mn, .slice A n cp] 32 (0, 0))) (((w3.alloc (.cells #[.int .u8 k, .int .i64 a, .int .i64 mn, .slice A n cp] 32 (0, 0))).alloc (.cells #[.int .u8 k, .int .i64 a, .int .i64 mn, .slice A n cp] 32 (0, 0))).drew) := (Below.refl _ _).drew
    replace X := X.below f6 (Nat.le_refl _)
    replace Y := Y.below f6 (Nat.le_refl _)
    replace hb := hb.trans (f5.mono hb.size)
    replace B := B.below f5 (Nat.le_refl _)
    replace G := G.below f5 (Nat.le_refl _)
    clear c0 c1 c2 c3 c4 c5 g0 g1 g2 g3 f5 f6 blt glt
    generalize ((w3.alloc (.cells #[.int .u8 k, .int .i64 a, .int .i64 mn, .slice A n cp] 32 (0, 0))).alloc (.cells #[.int .u8 k, .int .i64 a, .int .i64 mn, .slice A n cp] 32 (0, 0))).drew = w5 at *
    obtain ⟨s, es⟩ : ∃ s, s = w3.heap.size := ⟨_, rfl⟩
    rw [← es] at X Y hlt3 ⊢
    clear es
    obtain ⟨c0, c1, c2, c3, c4, c5⟩ := B.all
    obtain ⟨g0, g1, g2, g3⟩ := G.all4
    have hI := I.below hb (Nat.le_refl _)
    have hr0 := hI.toRow
    have hbl := Lib.hid hI.max
    have glt := G.lt
    have xlt := X.lt
    have ylt := Y.lt
    go_wp2_with (first
      | (at_builtin; refine wpList_append_row _ rfl (.const (.slice none 0 0)) (.tmp 23) _ rfl w5.heap.size 5 i0 _ 1 1 Try.underlying30 hi0 hz0 hz1 hz2 rfl (by omega) (.slice none 0 0) 0 [] rfl (World.ownsRow_nil _ _ _ _) A n cp _ rfl hr0 (by simp [Value.oneCell']) (by simp only [maxLen]; omega) (by omega) (Nat.le_refl _) ?_; intro v2 w6 own2 hg2 _; obtain ⟨A2, C2, rfl, f6, own3, hr3, hge⟩ := bytes_two own2 hg2)
      | (at_builtin; refine wpList_append_row _ rfl (.tmp 24) (.tmp 25) _ rfl w5.heap.size 5 i0 _ 1 1 Try.underlying30 hi0 hz0 hz1 hz2 rfl (by omega) _ n _ rfl own3 (some ⟨w6.heap.size, 0, none⟩) 1 1 [.int .u8 0] rfl hr3 (by simp [Value.oneCell']) (by simp only [maxLen]; omega) (by omega) (Nat.le_trans f6.size (by simp)) ?_; intro v7 w7 own7 hg7 _; obtain ⟨A7, C7, rfl, f7⟩ := bytes_three own7 hg7 f6 hge; clear own2 hg2 own3 hr3 own7 hg7 f6 hge hr0; replace hb := hb.trans (f7.mono hb.size); clear c0 c1 c2 c3 c4 c5 g0 g1 g2 g3 glt xlt ylt; replace B := B.below f7 (Nat.le_refl _); replace G := G.below f7 (Nat.le_refl _); replace X := X.below f7 (Nat.le_refl _); replace Y := Y.below f7 (Nat.le_refl _); clear f7; obtain ⟨c0, c1, c2, c3, c4, c5⟩ := B.all; obtain ⟨g0, g1, g2, g3⟩ := G.all4; obtain ⟨x0, x1, x2, x3⟩ := X.all4; obtain ⟨y0, y1, y2, y3⟩ := Y.all4; have xf := X.fr; have yf := Y.fr; have blt := B.lt; have glt := G.lt; have xlt := X.lt; have ylt := Y.lt; have n1 : s ≠ w.heap.size := (by have := hlt3.out; omega); have n2 : s ≠ w.heap.size + 1 := (by have := hlt3.out; omega); have n3 : s + 1 ≠ w.heap.size := (by have := hlt3.out; omega); have n4 : s + 1 ≠ w.heap.size + 1 := (by have := hlt3.out; omega))
      | (go_at_call 13; (with_reducible refine (hm3 _ _ _).mono ?_); rintro e w8 ⟨rfl, hb2⟩; replace B := ((B.other (p := ⟨s, 3, none⟩) (by have := hlt3.out; dsimp only; omega) (.slice A7 (n + 1) C7)).other (p := ⟨s + 1, 3, none⟩) (by have := hlt3.out; dsimp only; omega) (.slice _ (n - 1) _)).below hb2 (Nat.le_refl _); replace G := ((G.other (p := ⟨s, 3, none⟩) (by have := hlt3.out; dsimp only; omega) (.slice A7 (n + 1) C7)).other (p := ⟨s + 1, 3, none⟩) (by have := hlt3.out; dsimp only; omega) (.slice _ (n - 1) _)).below hb2 (Nat.le_refl _); have Z := ((Y.other (p := ⟨s, 3, none⟩) (by have := hlt3.out; dsimp only; omega) (.slice A7 (n + 1) C7)).put (i := 3) rfl (.slice _ (n - 1) _)).below hb2 (Nat.le_refl _); replace hb := ((hb.setCell (p := ⟨s, 3, none⟩) (by have := hlt3.out; dsimp only; omega) (.slice A7 (n + 1) C7)).setCell (p := ⟨s + 1, 3, none⟩) (by have := hlt3.out; dsimp only; omega) (.slice _ (n - 1) _)).trans (hb2.mono (by have := hb.size; first | (simp; done) | (simp; omega))); clear c0 c1 c2 c3 c4 c5 g0 g1 g2 g3 x0 x1 x2 x3 y0 y1 y2 y3 X Y; obtain ⟨c0, c1, c2, c3, c4, c5⟩ := B.all; obtain ⟨g0, g1, g2, g3⟩ := G.all4; obtain ⟨z0, z1, z2, z3⟩ := Z.all4)
      | (go_at_call 13; (with_reducible refine (hm4 _ _ _).mono ?_); rintro e w9 ⟨rfl, hb2⟩; replace hb := hb.trans (hb2.mono hb.size)))
    all_goals first
      | (go_ret; exact ⟨rfl, hb⟩)
      | (exfalso; have := hn.out; omega)
  · have hlt3 : Hid (w.heap.size + 1 < w3.heap.size) := G.lt
    have X := (CellsAt.new w3 [.int .u8 k, .int .i64 a, .int .i64 mn, .slice A n cp] 32).alloc (.cells #[.int .u8 k, .int .i64 a, .int .i64 mn, .slice A n cp] 32 (0, 0))
    have Y := CellsAt.new (w3.alloc (.cells #[.int .u8 k, .int .i64 a, .int .i64 mn, .slice A n cp] 32 (0, 0))) [.int .u8 k, .int .i64 a, .int .i64 mn, .slice A n cp] 32
    simp only [World.size_alloc] at Y
    have f5 : Below w3.heap.size w3 (((w3.alloc (.cells #[.int .u8 k, .int .i64 a, .int .i64 mn, .slice A n cp] 32 (0, 0))).alloc (.cells #[.int .u8 k, .int .i64 a, .int .i64 mn, .slice A n cp] 32 (0, 0))).drew) := (((Below.refl _ _).alloc (Nat.le_refl _) _).alloc (by simp) _).drew
    have f6 : Below ((w3.alloc (.cells #[.int .u8 k, .int .i64 a, .int .i64 mn, .slice A n cp] 32 (0, 0))).alloc (.cells #[.int .u8 k, .int .i64 a, .int .i64 mn, .slice A n cp] 32 (0, 0))).heap.size ((w3.alloc (.cells #[.int .u8 k, .int .i64 a, .int .i64 mn, .slice A n cp] 32 (0, 0))).alloc (.cells #[.int .u8 k, .int .i64 a, .int .i64 mn, .slice A n cp] 32 (0, 0))) (((w3.alloc (.cells #[.int .u8 k, .int .i64 a, .int .i64 mn, .slice A n cp] 32 (0, 0))).alloc (.cells #[.int .u8 k, .int .i64 a, .int .i64 mn, .slice A n cp] 32 (0, 0))).drew) := (Below.refl _ _).drew
    replace X := X.below f6 (Nat.le_refl _)
    replace Y := Y.below f6 (Nat.le_refl _)
    replace hb := hb.trans (f5.mono hb.size)
    replace B := B.below f5 (Nat.le_refl _)
    replace G := G.below f5 (Nat.le_refl _)
    clear c0 c1 c2 c3 c4 c5 g0 g1 g2 g3 f5 f6 blt glt
    generalize ((w3.alloc (.cells #[.int .u8 k, .int .i64 a, .int .i64 mn, .slice A n cp] 32 (0, 0))).alloc (.cells #[.int .u8 k, .int .i64 a, .int .i64 mn, .slice A n cp] 32 (0, 0))).drew = w5 at *
    obtain ⟨s, es⟩ : ∃ s, s = w3.heap.size := ⟨_, rfl⟩
    rw [← es] at X Y hlt3 ⊢
    clear es
    obtain ⟨c0, c1, c2, c3, c4, c5⟩ := B.all
    obtain ⟨g0, g1, g2, g3⟩ := G.all4
    have hI := I.below hb (Nat.le_refl _)
    have hr0 := hI.toRow
    have hbl := Lib.hid hI.max
    have glt := G.lt
    have xlt := X.lt
    have ylt := Y.lt
    go_wp2_with (first
      | (at_builtin; refine wpList_append_row _ rfl (.const (.slice none 0 0)) (.tmp 23) _ rfl w5.heap.size 5 i0 _ 1 1 Try.underlying30 hi0 hz0 hz1 hz2 rfl (by omega) (.slice none 0 0) 0 [] rfl (World.ownsRow_nil _ _ _ _) A n cp _ rfl hr0 (by simp [Value.oneCell']) (by simp only [maxLen]; omega) (by omega) (Nat.le_refl _) ?_; intro v2 w6 own2 hg2 _; obtain ⟨A2, C2, rfl, f6, own3, hr3, hge⟩ := bytes_two own2 hg2)
      | (at_builtin; refine wpList_append_row _ rfl (.tmp 24) (.tmp 25) _ rfl w5.heap.size 5 i0 _ 1 1 Try.underlying30 hi0 hz0 hz1 hz2 rfl (by omega) _ n _ rfl own3 (some ⟨w6.heap.size, 0, none⟩) 1 1 [.int .u8 0] rfl hr3 (by simp [Value.oneCell']) (by simp only [maxLen]; omega) (by omega) (Nat.le_trans f6.size (by simp)) ?_; intro v7 w7 own7 hg7 _; obtain ⟨A7, C7, rfl, f7⟩ := bytes_three own7 hg7 f6 hge; clear own2 hg2 own3 hr3 own7 hg7 f6 hge hr0; replace hb := hb.trans (f7.mono hb.size); clear c0 c1 c2 c3 c4 c5 g0 g1 g2 g3 glt xlt ylt; replace B := B.below f7 (Nat.le_refl _); replace G := G.below f7 (Nat.le_refl _); replace X := X.below f7 (Nat.le_refl _); replace Y := Y.below f7 (Nat.le_refl _); clear f7; obtain ⟨c0, c1, c2, c3, c4, c5⟩ := B.all; obtain ⟨g0, g1, g2, g3⟩ := G.all4; obtain ⟨x0, x1, x2, x3⟩ := X.all4; obtain ⟨y0, y1, y2, y3⟩ := Y.all4; have xf := X.fr; have yf := Y.fr; have blt := B.lt; have glt := G.lt; have xlt := X.lt; have ylt := Y.lt; have n1 : s ≠ w.heap.size := (by have := hlt3.out; omega); have n2 : s ≠ w.heap.size + 1 := (by have := hlt3.out; omega); have n3 : s + 1 ≠ w.heap.size := (by have := hlt3.out; omega); have n4 : s + 1 ≠ w.heap.size + 1 := (by have := hlt3.out; omega))
      | (go_at_call 13; (with_reducible refine (hm3 _ _ _).mono ?_); rintro e w8 ⟨rfl, hb2⟩; replace B := ((B.other (p := ⟨s + 1, 3, none⟩) (by have := hlt3.out; dsimp only; omega) (.slice A7 (n + 1) C7)).other (p := ⟨s, 3, none⟩) (by have := hlt3.out; dsimp only; omega) (.slice _ (n - 1) _)).below hb2 (Nat.le_refl _); replace G := ((G.other (p := ⟨s + 1, 3, none⟩) (by have := hlt3.out; dsimp only; omega) (.slice A7 (n + 1) C7)).other (p := ⟨s, 3, none⟩) (by have := hlt3.out; dsimp only; omega) (.slice _ (n - 1) _)).below hb2 (Nat.le_refl _); have Z := ((X.other (p := ⟨s + 1, 3, none⟩) (by have := hlt3.out; dsimp only; omega) (.slice A7 (n + 1) C7)).put (i := 3) rfl (.slice _ (n - 1) _)).below hb2 (Nat.le_refl _); replace hb := ((hb.setCell (p := ⟨s + 1, 3, none⟩) (by have := hlt3.out; dsimp only; omega) (.slice A7 (n + 1) C7)).setCell (p := ⟨s, 3, none⟩) (by have := hlt3.out; dsimp only; omega) (.slice _ (n - 1) _)).trans (hb2.mono (by have := hb.size; first | (simp; done) | (simp; omega))); clear c0 c1 c2 c3 c4 c5 g0 g1 g2 g3 x0 x1 x2 x3 y0 y1 y2 y3 X Y; obtain ⟨c0, c1, c2, c3, c4, c5⟩ := B.all; obtain ⟨g0, g1, g2, g3⟩ := G.all4; obtain ⟨z0, z1, z2, z3⟩ := Z.all4)
      | (go_at_call 13; (with_reducible refine (hm4 _ _ _).mono ?_); rintro e w9 ⟨rfl, hb2⟩; replace hb := hb.trans (hb2.mono hb.size)))
    all_goals first
      | (go_ret; exact ⟨rfl, hb⟩)
      | (exfalso; have := hn.out; omega)


theorem chk_off {c : Cfg} {k a mn : Int} {n n' : Nat} (h : chkA c k a mn n = 0) (hn : n' ≠ n) : chkA c k a mn n' = 3 := by
  obtain ⟨h1, h2, h3⟩ := chkA_zero h
  exact chkA_text h1 h2 (by omega)
theorem splitBytes_walk (w : World) (c : Cfg) (_hw : Wide c) (k a mn : Int) (A : Option Addr) (n cp : Nat) (zs : List Int) (wk : (Lit.int .u8 k).wf = true) (wa : (Lit.int .i64 a).wf = true) (wm : (Lit.int .i64 mn).wf = true) (I : Ints .u8 w A n zs) (hcp : n ≤ cp) : Calls Try.prog 8 #[cfgV c, askV k a mn A n cp] w fun e w' => e = .returned (.bool true) ∧ Below w.heap.size w w' := by
  have ka := fun W => alive8_calls W
  have hk := (bounds_u8 wk).1
  by_cases g1 : 5000 < n
  · exact bytes_g _ _ _ _ _ _ k a mn A n cp ka g1 w
  have hc := fun W => splitCheck c k a mn hk A n cp W
  by_cases e1 : chkA c k a mn n = 0
  · rw [e1] at hc
    have hm3 := fun A' c' W => splitCheck c k a mn hk A' (n + 1) c' W
    simp only [chk_off e1 (n' := n + 1) (by omega)] at hm3
    by_cases hn : n = 0
    · exact bytes_n0 _ _ _ _ _ _ k a mn A n cp ka w (by omega) zs I (Lib.hid hn) (by simpa using (show (n : Int) = 0 by omega)) hc hm3
    · have hm4 := fun A' c' W => splitCheck c k a mn hk A' (n - 1) c' W
      simp only [chk_off e1 (n' := n - 1) (by omega)] at hm4
      exact bytes_n1 _ _ _ _ _ _ k a mn A n cp ka w (by omega) zs I (Lib.hid (by omega)) (by omega) (by simpa using (show ¬ (n : Int) = 0 by omega)) hc hm3 hm4
  · exact bytes_c _ _ _ _ _ _ k a mn A n cp ka (by omega) _ (by simpa using e1) (by simpa using e1) hc w


namespace splitBytes
set_option linter.unusedVariables false
set_option maxRecDepth 100000 in
theorem lifted (os : Os) (started : os.Started) (H : Type) (enc : TypeId × Value → H) :
    ReturnsInHanded {} Try.checked os 8 .any (Rows.splitBytesSpec.pre6 enc Try.prog Try.f8 Rows.splitBytesRow.domain false) (Rows.splitBytesSpec.post enc Try.prog Try.f8 false true false false) := by
  refine returnsInHanded_of_change (C := Try.checked) Try.own started (by kernel_rfl) Try.func8
    (ChangeSpec.witness6 (enc := enc) (C := Try.checked) false ⟨#[], #[.agg #[.int .u32 0, .int .i64 0, .int .i64 0, .int .i64 0, .int .i64 0, .int .i64 0], .agg #[.int .u8 0, .int .i64 0, .int .i64 0, .slice none 0 0]], []⟩ 8 (by kernel_rfl) (by kernel_rfl) (by kernel_rfl) (by kernel_rfl)) ?_
  intro W base args ds gs before hval0 hW hcnd _
  have hval : ∀ (j : Nat) t v, Try.f8.params[j]? = some t → args[j]? = some v → Value.okWide Try.prog W .any base t v := hval0
  have hW' := hW
  obtain ⟨p, q, hA0, hV, rfl, hfz, hnd⟩ := hW
  have hA : DataW.TrodAll enc Try.prog W 0 (fun _ => true) true Try.f8.params.toList args.toList ds p := hA0
  rw [Try.params8] at hA hval
  obtain ⟨v0, vs0, d0, ds0, p0, q0, hargs, rfl, rfl, h0, r0⟩ := trodAll_cons hA
  obtain ⟨v1, vs1, d1, ds1, p1, q1, rfl, rfl, rfl, h1, r1⟩ := trodAll_cons r0
  obtain ⟨rfl, rfl, rfl⟩ := trodAll_nil r1
  obtain rfl : args = #[v0, v1] := by cases args; simp_all
  obtain ⟨rfl, rfl⟩ := trodVars_none hV
  have k0 := h0
  have lt0 : ∀ x ∈ p0, x.block < W.heap.size := by obtain ⟨m, hm⟩ := k0; exact DataW.trod_lt m _ _ _ hm
  obtain ⟨z0, rfl, w0⟩ := cfg_in (hval 0 24 v0 rfl rfl) h0
  have k1 := h1
  have lt1 : ∀ x ∈ p1, x.block < W.heap.size := by obtain ⟨m, hm⟩ := k1; exact DataW.trod_lt m _ _ _ hm
  obtain ⟨kd1, at1, mn1, a1, len1, cap1, z1, rfl, wk1, wa1, wm1, w1, c1⟩ := ask_in (hval 1 32 v1 rfl rfl) h1
  clear hA0 hval0
  refine (splitBytes_walk W z0 w0 kd1 at1 mn1 a1 len1 cap1 z1 wk1 wa1 wm1 w1 c1).mono fun e W' ⟨he, bel⟩ => ?_
  subst he
  exact ⟨_, rfl, _, _, _, [], _, [], hW', trodAll_mk1 (shut_bool Try.underlying4 _), (trodAll_cons_mk (Below.trod Try.laidOut (by kernel_rfl) (of_decide_eq_true (by kernel_rfl)) k0 bel lt0) (trodAll_cons_mk (Below.trod Try.laidOut (by kernel_rfl) (of_decide_eq_true (by kernel_rfl)) k1 bel lt1) trodAll_mk0)), rfl, bel.frame _, fun h => by cases h⟩

theorem holds : Rows.SplitBytesSaid :=
  OpenClaim.holds_of_wide 8 Try.f8 rfl rfl rfl rfl rfl rfl rfl ⟨rfl, rfl, rfl, rfl, rfl⟩ rfl rfl rfl rfl rfl (by kernel_rfl) Try.func8 (by kernel_rfl)
    (of_decide_eq_true (by kernel_rfl)) (by unfold Func.isWrapper; first | (rw [if_pos (by decide +kernel)]; kernel_rfl) | (rw [if_neg (by decide +kernel)]; exact ⟨rfl, rfl⟩))
    (fun os started H enc _ => lifted os started H enc)
end splitBytes
end Go.Proofs.Ytkjgmopgibpkjaa
