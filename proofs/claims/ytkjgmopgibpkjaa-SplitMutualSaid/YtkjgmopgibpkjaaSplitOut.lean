/- The walks of package split: Blocks, common (a map), Touch. -/
import Derived.Test.YtkjgmopgibpkjaaSplitWalk
import Derived.Test.YtkjgmopgibpkjaaIntRow
import Derived.Maps.OwnOps
import Derived.Maps.Views
import Derived.Maps.OwnSet
import Derived.Deep.LoopGhost
namespace Go.Proofs.Ytkjgmopgibpkjaa
open Go.RowKit ShapeM SplitM Go.Maps
set_option linter.unusedVariables false

theorem law_int : Keyed Try.prog 3 := int_keyed Try.underlying3
theorem zero_int (w : World) : (zeroValue 3).run Try.prog w = .ok (.int .i64 0) w := by kernel_rfl

/-- The row of blocks, k of which are set. -/
def upTo (a : Int) (k n : Nat) : List Int := rng a k ++ List.replicate (n - k) 0
theorem upTo_len {a : Int} {k n : Nat} (h : k ≤ n) : (upTo a k n).length = n := by simp [upTo, rng_len]; omega
theorem upTo_zero (a : Int) (n : Nat) : upTo a 0 n = List.replicate n 0 := by simp [upTo, rng_zero]
theorem upTo_full (a : Int) (n : Nat) : upTo a n n = rng a n := by simp [upTo]
theorem upTo_at {a : Int} {k n : Nat} (h : k < n) : (upTo a k n).getD k 0 = 0 := by
  unfold upTo
  rw [List.getD_eq_getElem?_getD, List.getElem?_append_right (by rw [rng_len]; omega), rng_len, Nat.sub_self, List.getElem?_replicate, if_pos (by omega)]
  rfl
theorem upTo_set {a : Int} {k n : Nat} (h : k < n) : (upTo a k n).set k (a + (k : Int)) = upTo a (k + 1) n := by
  unfold upTo
  rw [List.set_append_right _ _ (by rw [rng_len]; omega), rng_len, Nat.sub_self, show n - k = (n - (k + 1)) + 1 by omega, List.replicate_succ, List.set_cons_zero, rng_succ, List.append_assoc]
  rfl
theorem rng_wf {a : Int} {n : Nat} (h0 : 0 ≤ a) (h1 : a ≤ 1000000) (h2 : n ≤ 1000) : ∀ z ∈ rng a n, (Lit.int .i64 z).wf = true := fun z hz => by
  rw [rng_mem] at hz
  exact WalkArith.wf_i64 (by omega)

set_option maxRecDepth 100000 in
set_option maxHeartbeats 4000000 in
theorem blocks_no (id m ch ro lo he k a mn : Int) (A : Option Addr) (n cp : Nat) (E : Int) (hE : (E == 0) = false) (hc : ∀ W, Calls Try.prog 13 #[.agg #[.int .u32 id, .int .i64 m, .int .i64 ch, .int .i64 ro, .int .i64 lo, .int .i64 he], .agg #[.int .u8 k, .int .i64 a, .int .i64 mn, .slice A n cp]] W fun e w' => e = .returned (.int .i64 E) ∧ Below W.heap.size W w') (w : World) : Calls Try.prog 10 #[.agg #[.int .u32 id, .int .i64 m, .int .i64 ch, .int .i64 ro, .int .i64 lo, .int .i64 he], .agg #[.int .u8 k, .int .i64 a, .int .i64 mn, .slice A n cp]] w fun e w' => e = .returned (.tuple #[.slice none 0 0, .int .i64 E]) ∧ Below w.heap.size w w' := by
  have B := Box6.new w (.int .u32 id) (.int .i64 m) (.int .i64 ch) (.int .i64 ro) (.int .i64 lo) (.int .i64 he) 24
  have hb : Below w.heap.size w (w.alloc (.cells #[.int .u32 id, .int .i64 m, .int .i64 ch, .int .i64 ro, .int .i64 lo, .int .i64 he] 24 (0, 0))) := (Below.refl _ _).alloc (Nat.le_refl _) _
  replace B := B.alloc (.cells #[.int .u8 k, .int .i64 a, .int .i64 mn, .slice A n cp] 32 (0, 0))
  have G := CellsAt.new (w.alloc (.cells #[.int .u32 id, .int .i64 m, .int .i64 ch, .int .i64 ro, .int .i64 lo, .int .i64 he] 24 (0, 0))) [.int .u8 k, .int .i64 a, .int .i64 mn, .slice A n cp] 32
  replace hb := hb.alloc hb.size (.cells #[.int .u8 k, .int .i64 a, .int .i64 mn, .slice A n cp] 32 (0, 0))
  simp only [World.size_alloc] at G
  obtain ⟨c0, c1, c2, c3, c4, c5⟩ := B.all
  obtain ⟨g0, g1, g2, g3⟩ := G.all4
  go_enter Try.func10, Try.ntmps10
  go_wp2_with (first
    | (go_at_call 13; refine (hc _).mono ?_; rintro e w2 ⟨rfl, hb2⟩; replace hb := hb.trans (hb2.mono hb.size); clear c0 c1 c2 c3 c4 c5 g0 g1 g2 g3; replace B := B.below hb2 (Nat.le_refl _); replace G := G.below hb2 (Nat.le_refl _); clear hb2; obtain ⟨c0, c1, c2, c3, c4, c5⟩ := B.all; obtain ⟨g0, g1, g2, g3⟩ := G.all4; have blt := B.lt; have glt := G.lt))
  go_ret2
  exact ⟨rfl, hb⟩
set_option maxRecDepth 100000 in
set_option maxHeartbeats 4000000 in
theorem blocks_ok (id m ch ro lo he k a : Int) (mn : Nat) (A : Option Addr) (n cp : Nat) (ha : 0 ≤ a) (ha2 : a ≤ 960) (hm : mn ≤ 8) (hc : ∀ W, Calls Try.prog 13 #[.agg #[.int .u32 id, .int .i64 m, .int .i64 ch, .int .i64 ro, .int .i64 lo, .int .i64 he], .agg #[.int .u8 k, .int .i64 a, .int .i64 (mn : Nat), .slice A n cp]] W fun e w' => e = .returned (.int .i64 0) ∧ Below W.heap.size W w') (w : World) : Calls Try.prog 10 #[.agg #[.int .u32 id, .int .i64 m, .int .i64 ch, .int .i64 ro, .int .i64 lo, .int .i64 he], .agg #[.int .u8 k, .int .i64 a, .int .i64 (mn : Nat), .slice A n cp]] w fun e w' => ∃ A' c', e = .returned (.tuple #[.slice A' mn c', .int .i64 0]) ∧ Ints .i64 w' A' mn (rng a mn) ∧ Below w.heap.size w w' := by
  have hmk := make_ints mn (by omega)
  have B := Box6.new w (.int .u32 id) (.int .i64 m) (.int .i64 ch) (.int .i64 ro) (.int .i64 lo) (.int .i64 he) 24
  have hb : Below w.heap.size w (w.alloc (.cells #[.int .u32 id, .int .i64 m, .int .i64 ch, .int .i64 ro, .int .i64 lo, .int .i64 he] 24 (0, 0))) := (Below.refl _ _).alloc (Nat.le_refl _) _
  replace B := B.alloc (.cells #[.int .u8 k, .int .i64 a, .int .i64 (mn : Nat), .slice A n cp] 32 (0, 0))
  have G := CellsAt.new (w.alloc (.cells #[.int .u32 id, .int .i64 m, .int .i64 ch, .int .i64 ro, .int .i64 lo, .int .i64 he] 24 (0, 0))) [.int .u8 k, .int .i64 a, .int .i64 (mn : Nat), .slice A n cp] 32
  replace hb := hb.alloc hb.size (.cells #[.int .u8 k, .int .i64 a, .int .i64 (mn : Nat), .slice A n cp] 32 (0, 0))
  simp only [World.size_alloc] at G
  obtain ⟨c0, c1, c2, c3, c4, c5⟩ := B.all
  obtain ⟨g0, g1, g2, g3⟩ := G.all4
  go_enter Try.func10, Try.ntmps10
  go_wp2_with (first
    | (go_at_call 13; refine (hc _).mono ?_; rintro e w2 ⟨rfl, hb2⟩; replace hb := hb.trans (hb2.mono hb.size); clear c0 c1 c2 c3 c4 c5 g0 g1 g2 g3; replace B := B.below hb2 (Nat.le_refl _); replace G := G.below hb2 (Nat.le_refl _); clear hb2; obtain ⟨c0, c1, c2, c3, c4, c5⟩ := B.all; obtain ⟨g0, g1, g2, g3⟩ := G.all4; have hg0 : (w2.alloc (.cells (cellsI (List.replicate mn 0)) 3 (0, 0))).heap[w2.heap.size]? = some (.cells (cellsI (upTo a 0 mn)) 3 (0, 0)) := (by rw [upTo_zero]; exact heap_alloc_new _ _); have hb0 : Below w2.heap.size w2 (w2.alloc (.cells (cellsI (List.replicate mn 0)) 3 (0, 0))) := (Below.refl _ _).alloc (Nat.le_refl _) _; have hw2 : Hid (w.heap.size ≤ w2.heap.size) := hb.size; have blt := B.lt; have glt := G.lt))
  generalize World.alloc _ _ = w1 at *
  clear c0 c1 c2 c3 c4 c5 g0 g1 g2 g3 blt glt B
  obtain ⟨g, hg⟩ : ∃ g, g = w2.heap.size := ⟨_, rfl⟩
  have hgG : Hid (w2.heap.size ≤ g) := Nat.le_of_eq hg.symm
  rw [← hg] at hg0 hb0 hw2 ⊢
  clear hg
  go_loopg [20] mn (fun r s20 wr => ∃ k : Nat, k + r = mn ∧ s20 = .int .i64 k ∧ wr.heap[g]? = some (.cells (cellsI (upTo a k mn)) 3 (0, 0)) ∧ Below g w2 wr)
  case atStart => exact ⟨0, by omega, rfl, hg0, hb0⟩
  case round =>
    obtain ⟨k, hk, rfl, hgk, hbk⟩ := hrel
    clear hg0 hb0
    by_cases hkn : k < mn
    · obtain ⟨g0, g1, g2, g3⟩ := (G.below hbk hgG.out).all4
      have hc0 : wr.cell? ⟨g, k, none⟩ = some (.int .i64 0) := by rw [cell_of_row _ _ _ _ _ _ hgk, cellsI_getD (by rw [upTo_len (by omega)]; exact hkn), upTo_at hkn]
      have hfr : wr.frozen? ⟨g, k, none⟩ = false := frozen_of_row _ _ _ _ _ hgk
      go_wp2
      go_roundg (mn - (k + 1))
      case measure => omega
      case rel =>
        refine ⟨k + 1, by omega, by go_num, ?_, hbk.setCell (Nat.le_refl _) _⟩
        rw [heap_setCell_same _ _ _ _ _ _ hgk, cellsI_set, upTo_set hkn]
    · obtain rfl : k = mn := by omega
      rw [upTo_full] at hgk
      go_wp2
      go_ret2
      exact ⟨_, _, rfl, Ints.ofI hgk (rng_len _ _) (by omega) (rng_wf ha (by omega) (by omega)), hb.trans (hbk.mono hw2.out)⟩

/-- The map counts the numbers of the list. -/
def Cnt (D : DataW Unit) (l : List Int) : Prop := ∀ x : Int, ∃ c : Int, D.atKey (.int .i64 x) (.lit (.int .i64 0)) = .lit (.int .i64 c) ∧ 0 ≤ c ∧ c ≤ l.length ∧ (0 < c ↔ x ∈ l)
theorem Cnt.empty : Cnt (.map []) [] := fun x => ⟨0, rfl, by simp⟩
theorem Cnt.at {D : DataW Unit} {l : List Int} (h : Cnt D l) {x c : Int} (hc : D.atKey (.int .i64 x) (.lit (.int .i64 0)) = .lit (.int .i64 c)) : 0 ≤ c ∧ c ≤ l.length ∧ (0 < c ↔ x ∈ l) := by
  obtain ⟨c', e, q⟩ := h x
  rw [hc] at e
  cases e
  exact q
theorem Cnt.put {D : DataW Unit} {l : List Int} (h : Cnt D l) (hD : IsMap D) {x c : Int} (hc : D.atKey (.int .i64 x) (.lit (.int .i64 0)) = .lit (.int .i64 c)) : Cnt (D.put (.int .i64 x) (.lit (.int .i64 (c + 1)))) (l ++ [x]) := by
  obtain ⟨q0, q1, q2⟩ := h.at hc
  intro y
  by_cases e : y = x
  · subst e
    exact ⟨c + 1, atKey_put_same hD (by trivial) _ _, by omega, by rw [List.length_append]; simp; omega, by simp; omega⟩
  · obtain ⟨c', e', r0, r1, r2⟩ := h y
    refine ⟨c', ?_, r0, by rw [List.length_append]; omega, ?_⟩
    · rw [atKey_put_other (by intro q; cases q; exact e rfl)]
      exact e'
    · rw [r2]
      simp [e]
theorem Ints.at_below {k : IntKind} {w w' : World} {A : Option Addr} {n i : Nat} {zs : List Int} (h : Ints k w A n zs) (hb : Below w.heap.size w w') (hi : i < n) : ∃ b off, A = some ⟨b, off, none⟩ ∧ w'.cell? ⟨b, off + i, none⟩ = some (.int k (zs.getD i 0)) := by
  rcases (h.below hb (Nat.le_refl _)).row with q | ⟨b, off, e, _, hc⟩
  · omega
  · exact ⟨b, off, e, hc i hi⟩
set_option maxRecDepth 100000 in
set_option maxHeartbeats 4000000 in
theorem common_calls (A : Option Addr) (na ca : Nat) (l1 : List Int) (A2 : Option Addr) (nb cb : Nat) (l2 : List Int) (w : World) (ha : Ints .i64 w A na l1) (hb : Ints .i64 w A2 nb l2) (hn : na ≤ 1000) (hn2 : nb ≤ 1000) : Calls Try.prog 23 #[.slice A na ca, .slice A2 nb cb] w fun e w' => e = .returned (.bool (hitB l1 l2)) ∧ Below w.heap.size w w' := by
  have hmm := @run_makeMap Try.prog
  have la := ha.len
  have lb := hb.len
  go_enter Try.func23, Try.ntmps23
  go_wp2
  go_loopg [13] na (fun r s13 wr => ∃ (k : Nat) (D : DataW Unit), k + r = na ∧ s13 = .int .i64 k ∧ wr.ownsMap Try.prog 3 (plainElem Try.prog 3) w.heap.size k D ∧ Cnt D (l1.take k) ∧ Below w.heap.size w wr)
  case atStart => exact ⟨0, _, by omega, rfl, World.ownsMap_made _ _ _ _, Cnt.empty, (Below.refl _ _).alloc (Nat.le_refl _) _⟩
  case round =>
    obtain ⟨k, D, hk, rfl, hown, hC, hbk⟩ := hrel
    by_cases hkn : k < na
    · obtain ⟨b, off, rfl, hcell⟩ := ha.at_below hbk hkn
      have F : Hid (l1.take (k + 1) = l1.take k ++ [l1.getD k 0]) := take_snoc (by omega)
      have hwx : (Lit.int .i64 (l1.getD k 0)).wf = true := ha.wf _ (getD_mem (by omega))
      have hlen : (l1.take k).length = k := by rw [List.length_take]; omega
      have hlen' := Lib.hid hlen
      clear hlen
      generalize l1.getD k 0 = x at *
      go_wp2_with (first
        | (at_lookup; refine wpList_lookup_own_int _ rfl _ _ 61 rfl 3 3 .i64 law_int Try.underlying61 Try.underlying3 (zero_int _) w.heap.size k D rfl hown _ _ rfl (keyOf_int_mk Try.underlying3 hwx) ?_; intro c hat hwc; have hcb := hC.at hat; rw [hlen'.out] at hcb)
        | (at_mapUpdate; refine wpList_mapUpdate_own _ rfl _ _ _ 61 rfl 3 3 law_int Try.underlying61 _ w.heap.size k _ rfl hown (by unfold maxLen; omega) _ _ _ rfl rfl (keyOf_int_mk Try.underlying3 hwx) _ [] (plainElem_int Try.underlying3 (by first | exact WalkArith.wf_i64 (by omega) | exact wrap64_wf _)) ?_; intro w1 hown1 hgrow1))
      go_roundg (na - (k + 1))
      case measure => omega
      case rel =>
        refine ⟨k + 1, _, by omega, by go_num, hown1, ?_, hbk.grown hgrow1 hbk.size (fun j hj => by cases hj; exact Nat.le_refl _)⟩
        rw [F.out]
        exact hC.put (hown.isMap) hat
    · obtain rfl : k = na := by omega
      have F : Hid (l1.take k = l1) := List.take_of_length_le (by omega)
      rw [F.out] at hC
      clear F
      obtain ⟨wm, hwm⟩ : ∃ x, x = wr := ⟨_, rfl⟩
      rw [← hwm] at hown hbk ⊢
      clear hwm
      go_wp2
      go_loopg [24] nb (fun r s24 wr => ∃ j : Nat, j + r = nb ∧ s24 = .int .i64 j ∧ wr = wm ∧ Hid (∀ x ∈ l2.take j, x ∉ l1))
      case atStart => exact ⟨0, by omega, rfl, rfl, Lib.hid (by simp)⟩
      case round =>
        obtain ⟨j, hj, rfl, rfl, hno⟩ := hrel
        by_cases hjn : j < nb
        · obtain ⟨b, off, rfl, hcell⟩ := hb.at_below hbk hjn
          have F : Hid (l2.take (j + 1) = l2.take j ++ [l2.getD j 0]) := take_snoc (by omega)
          have hwx : (Lit.int .i64 (l2.getD j 0)).wf = true := hb.wf _ (getD_mem (by omega))
          have hmem : Hid (l2.getD j 0 ∈ l2) := getD_mem (by omega)
          generalize l2.getD j 0 = x at *
          go_wp2_with (first
            | (at_lookup; refine wpList_lookup_own_int _ rfl _ _ 61 rfl 3 3 .i64 law_int Try.underlying61 Try.underlying3 (zero_int _) w.heap.size _ D rfl hown _ _ rfl (keyOf_int_mk Try.underlying3 hwx) ?_; intro c hat hwc; have hcb := hC.at hat))
          · have hx : x ∈ l1 := by assumption
            try rw [Exit.noGoto_ret]
            go_ret
            refine ⟨ret_bool ?_, hbk⟩
            exact (decide_eq_true ⟨x, hx, hmem.out⟩).symm
          · have hx : x ∉ l1 := by assumption
            go_roundg (nb - (j + 1))
            case measure => omega
            case rel =>
              refine ⟨j + 1, by omega, by go_num, rfl, Lib.hid fun y hy => ?_⟩
              rw [F.out, List.mem_append] at hy
              rcases hy with hy | hy
              · exact hno.out y hy
              · rw [List.mem_singleton.1 hy]; exact hx
        · obtain rfl : j = nb := by omega
          have F : Hid (l2.take j = l2) := List.take_of_length_le (by omega)
          go_wp2
          go_ret
          refine ⟨ret_bool ?_, hbk⟩
          refine (decide_eq_false ?_).symm
          rintro ⟨x, h1, h2⟩
          exact hno.out x (by rw [F.out]; exact h2) h1
set_option maxRecDepth 100000 in
set_option maxHeartbeats 4000000 in
theorem touch_no1 (id m ch ro lo he k a mn k2 a2 mn2 : Int) (A A2 : Option Addr) (n cp n2 cp2 : Nat) (l1 l2 : List Int) (E : Int) (hE : (E == 0) = false) (hl1 : ∀ W, Calls Try.prog 10 #[.agg #[.int .u32 id, .int .i64 m, .int .i64 ch, .int .i64 ro, .int .i64 lo, .int .i64 he], .agg #[.int .u8 k, .int .i64 a, .int .i64 mn, .slice A n cp]] W fun e w' => ∃ A' c', e = .returned (.tuple #[.slice A' l1.length c', .int .i64 E]) ∧ Ints .i64 w' A' l1.length l1 ∧ Below W.heap.size W w') (w : World) : Calls Try.prog 12 #[.agg #[.int .u32 id, .int .i64 m, .int .i64 ch, .int .i64 ro, .int .i64 lo, .int .i64 he], .agg #[.int .u8 k, .int .i64 a, .int .i64 mn, .slice A n cp], .agg #[.int .u8 k2, .int .i64 a2, .int .i64 mn2, .slice A2 n2 cp2]] w fun e w' => e = .returned (.tuple #[.bool false, .int .i64 E]) ∧ Below w.heap.size w w' := by
  have B := Box6.new w (.int .u32 id) (.int .i64 m) (.int .i64 ch) (.int .i64 ro) (.int .i64 lo) (.int .i64 he) 24
  have hb : Below w.heap.size w (w.alloc (.cells #[.int .u32 id, .int .i64 m, .int .i64 ch, .int .i64 ro, .int .i64 lo, .int .i64 he] 24 (0, 0))) := (Below.refl _ _).alloc (Nat.le_refl _) _
  replace B := B.alloc (.cells #[.int .u8 k, .int .i64 a, .int .i64 mn, .slice A n cp] 32 (0, 0))
  have G := CellsAt.new (w.alloc (.cells #[.int .u32 id, .int .i64 m, .int .i64 ch, .int .i64 ro, .int .i64 lo, .int .i64 he] 24 (0, 0))) [.int .u8 k, .int .i64 a, .int .i64 mn, .slice A n cp] 32
  replace hb := hb.alloc hb.size (.cells #[.int .u8 k, .int .i64 a, .int .i64 mn, .slice A n cp] 32 (0, 0))
  replace B := B.alloc (.cells #[.int .u8 k2, .int .i64 a2, .int .i64 mn2, .slice A2 n2 cp2] 32 (0, 0))
  replace G := G.alloc (.cells #[.int .u8 k2, .int .i64 a2, .int .i64 mn2, .slice A2 n2 cp2] 32 (0, 0))
  have G2 := CellsAt.new ((w.alloc (.cells #[.int .u32 id, .int .i64 m, .int .i64 ch, .int .i64 ro, .int .i64 lo, .int .i64 he] 24 (0, 0))).alloc (.cells #[.int .u8 k, .int .i64 a, .int .i64 mn, .slice A n cp] 32 (0, 0))) [.int .u8 k2, .int .i64 a2, .int .i64 mn2, .slice A2 n2 cp2] 32
  replace hb := hb.alloc hb.size (.cells #[.int .u8 k2, .int .i64 a2, .int .i64 mn2, .slice A2 n2 cp2] 32 (0, 0))
  simp only [World.size_alloc] at G G2
  obtain ⟨c0, c1, c2, c3, c4, c5⟩ := B.all
  obtain ⟨g0, g1, g2, g3⟩ := G.all4
  obtain ⟨g02, g12, g22, g32⟩ := G2.all4
  go_enter Try.func12, Try.ntmps12
  go_wp2_with (first
    | (go_at_call 10; (with_reducible refine (hl1 _).mono ?_); rintro e w2 ⟨Bl1, Cl1, rfl, Il1, hb2⟩; replace hb := hb.trans (hb2.mono hb.size); clear c0 c1 c2 c3 c4 c5 g0 g1 g2 g3 g02 g12 g22 g32; replace B := B.below hb2 (Nat.le_refl _); replace G := G.below hb2 (Nat.le_refl _); replace G2 := G2.below hb2 (Nat.le_refl _); clear hb2; obtain ⟨c0, c1, c2, c3, c4, c5⟩ := B.all; obtain ⟨g0, g1, g2, g3⟩ := G.all4; obtain ⟨g02, g12, g22, g32⟩ := G2.all4; have blt := B.lt; have glt := G.lt; have glt2 := G2.lt))
  go_ret2
  exact ⟨rfl, hb⟩
set_option maxRecDepth 100000 in
set_option maxHeartbeats 4000000 in
theorem touch_no2 (id m ch ro lo he k a mn k2 a2 mn2 : Int) (A A2 : Option Addr) (n cp n2 cp2 : Nat) (l1 l2 : List Int) (E : Int) (hE : (E == 0) = false) (hl1 : ∀ W, Calls Try.prog 10 #[.agg #[.int .u32 id, .int .i64 m, .int .i64 ch, .int .i64 ro, .int .i64 lo, .int .i64 he], .agg #[.int .u8 k, .int .i64 a, .int .i64 mn, .slice A n cp]] W fun e w' => ∃ A' c', e = .returned (.tuple #[.slice A' l1.length c', .int .i64 0]) ∧ Ints .i64 w' A' l1.length l1 ∧ Below W.heap.size W w') (hl2 : ∀ W, Calls Try.prog 10 #[.agg #[.int .u32 id, .int .i64 m, .int .i64 ch, .int .i64 ro, .int .i64 lo, .int .i64 he], .agg #[.int .u8 k2, .int .i64 a2, .int .i64 mn2, .slice A2 n2 cp2]] W fun e w' => ∃ A' c', e = .returned (.tuple #[.slice A' l2.length c', .int .i64 E]) ∧ Ints .i64 w' A' l2.length l2 ∧ Below W.heap.size W w') (w : World) : Calls Try.prog 12 #[.agg #[.int .u32 id, .int .i64 m, .int .i64 ch, .int .i64 ro, .int .i64 lo, .int .i64 he], .agg #[.int .u8 k, .int .i64 a, .int .i64 mn, .slice A n cp], .agg #[.int .u8 k2, .int .i64 a2, .int .i64 mn2, .slice A2 n2 cp2]] w fun e w' => e = .returned (.tuple #[.bool false, .int .i64 E]) ∧ Below w.heap.size w w' := by
  have B := Box6.new w (.int .u32 id) (.int .i64 m) (.int .i64 ch) (.int .i64 ro) (.int .i64 lo) (.int .i64 he) 24
  have hb : Below w.heap.size w (w.alloc (.cells #[.int .u32 id, .int .i64 m, .int .i64 ch, .int .i64 ro, .int .i64 lo, .int .i64 he] 24 (0, 0))) := (Below.refl _ _).alloc (Nat.le_refl _) _
  replace B := B.alloc (.cells #[.int .u8 k, .int .i64 a, .int .i64 mn, .slice A n cp] 32 (0, 0))
  have G := CellsAt.new (w.alloc (.cells #[.int .u32 id, .int .i64 m, .int .i64 ch, .int .i64 ro, .int .i64 lo, .int .i64 he] 24 (0, 0))) [.int .u8 k, .int .i64 a, .int .i64 mn, .slice A n cp] 32
  replace hb := hb.alloc hb.size (.cells #[.int .u8 k, .int .i64 a, .int .i64 mn, .slice A n cp] 32 (0, 0))
  replace B := B.alloc (.cells #[.int .u8 k2, .int .i64 a2, .int .i64 mn2, .slice A2 n2 cp2] 32 (0, 0))
  replace G := G.alloc (.cells #[.int .u8 k2, .int .i64 a2, .int .i64 mn2, .slice A2 n2 cp2] 32 (0, 0))
  have G2 := CellsAt.new ((w.alloc (.cells #[.int .u32 id, .int .i64 m, .int .i64 ch, .int .i64 ro, .int .i64 lo, .int .i64 he] 24 (0, 0))).alloc (.cells #[.int .u8 k, .int .i64 a, .int .i64 mn, .slice A n cp] 32 (0, 0))) [.int .u8 k2, .int .i64 a2, .int .i64 mn2, .slice A2 n2 cp2] 32
  replace hb := hb.alloc hb.size (.cells #[.int .u8 k2, .int .i64 a2, .int .i64 mn2, .slice A2 n2 cp2] 32 (0, 0))
  simp only [World.size_alloc] at G G2
  obtain ⟨c0, c1, c2, c3, c4, c5⟩ := B.all
  obtain ⟨g0, g1, g2, g3⟩ := G.all4
  obtain ⟨g02, g12, g22, g32⟩ := G2.all4
  go_enter Try.func12, Try.ntmps12
  go_wp2_with (first
    | (go_at_call 10; (with_reducible refine (hl1 _).mono ?_); rintro e w2 ⟨Bl1, Cl1, rfl, Il1, hb2⟩; replace hb := hb.trans (hb2.mono hb.size); clear c0 c1 c2 c3 c4 c5 g0 g1 g2 g3 g02 g12 g22 g32; replace B := B.below hb2 (Nat.le_refl _); replace G := G.below hb2 (Nat.le_refl _); replace G2 := G2.below hb2 (Nat.le_refl _); clear hb2; obtain ⟨c0, c1, c2, c3, c4, c5⟩ := B.all; obtain ⟨g0, g1, g2, g3⟩ := G.all4; obtain ⟨g02, g12, g22, g32⟩ := G2.all4; have blt := B.lt; have glt := G.lt; have glt2 := G2.lt)
    | (go_at_call 10; (with_reducible refine (hl2 _).mono ?_); rintro e w3 ⟨Bl2, Cl2, rfl, Il2, hb2⟩; replace hb := hb.trans (hb2.mono hb.size); clear c0 c1 c2 c3 c4 c5 g0 g1 g2 g3 g02 g12 g22 g32; replace B := B.below hb2 (Nat.le_refl _); replace G := G.below hb2 (Nat.le_refl _); replace G2 := G2.below hb2 (Nat.le_refl _); replace Il1 := Il1.below hb2 (Nat.le_refl _); clear hb2; obtain ⟨c0, c1, c2, c3, c4, c5⟩ := B.all; obtain ⟨g0, g1, g2, g3⟩ := G.all4; obtain ⟨g02, g12, g22, g32⟩ := G2.all4; have blt := B.lt; have glt := G.lt; have glt2 := G2.lt))
  go_ret2
  exact ⟨rfl, hb⟩
set_option maxRecDepth 100000 in
set_option maxHeartbeats 4000000 in
theorem touch_w (id m ch ro lo he k a mn k2 a2 mn2 : Int) (A A2 : Option Addr) (n cp n2 cp2 : Nat) (l1 l2 : List Int) (hn : l1.length ≤ 1000) (hn2 : l2.length ≤ 1000) (hl1 : ∀ W, Calls Try.prog 10 #[.agg #[.int .u32 id, .int .i64 m, .int .i64 ch, .int .i64 ro, .int .i64 lo, .int .i64 he], .agg #[.int .u8 k, .int .i64 a, .int .i64 mn, .slice A n cp]] W fun e w' => ∃ A' c', e = .returned (.tuple #[.slice A' l1.length c', .int .i64 0]) ∧ Ints .i64 w' A' l1.length l1 ∧ Below W.heap.size W w') (hl2 : ∀ W, Calls Try.prog 10 #[.agg #[.int .u32 id, .int .i64 m, .int .i64 ch, .int .i64 ro, .int .i64 lo, .int .i64 he], .agg #[.int .u8 k2, .int .i64 a2, .int .i64 mn2, .slice A2 n2 cp2]] W fun e w' => ∃ A' c', e = .returned (.tuple #[.slice A' l2.length c', .int .i64 0]) ∧ Ints .i64 w' A' l2.length l2 ∧ Below W.heap.size W w') (hw : ∀ W, Calls Try.prog 22 #[.agg #[.int .u8 k, .int .i64 a, .int .i64 mn, .slice A n cp]] W fun e w' => e = .returned (.bool true) ∧ Below W.heap.size W w') (w : World) : Calls Try.prog 12 #[.agg #[.int .u32 id, .int .i64 m, .int .i64 ch, .int .i64 ro, .int .i64 lo, .int .i64 he], .agg #[.int .u8 k, .int .i64 a, .int .i64 mn, .slice A n cp], .agg #[.int .u8 k2, .int .i64 a2, .int .i64 mn2, .slice A2 n2 cp2]] w fun e w' => e = .returned (.tuple #[.bool (hitB l1 l2), .int .i64 0]) ∧ Below w.heap.size w w' := by
  have B := Box6.new w (.int .u32 id) (.int .i64 m) (.int .i64 ch) (.int .i64 ro) (.int .i64 lo) (.int .i64 he) 24
  have hb : Below w.heap.size w (w.alloc (.cells #[.int .u32 id, .int .i64 m, .int .i64 ch, .int .i64 ro, .int .i64 lo, .int .i64 he] 24 (0, 0))) := (Below.refl _ _).alloc (Nat.le_refl _) _
  replace B := B.alloc (.cells #[.int .u8 k, .int .i64 a, .int .i64 mn, .slice A n cp] 32 (0, 0))
  have G := CellsAt.new (w.alloc (.cells #[.int .u32 id, .int .i64 m, .int .i64 ch, .int .i64 ro, .int .i64 lo, .int .i64 he] 24 (0, 0))) [.int .u8 k, .int .i64 a, .int .i64 mn, .slice A n cp] 32
  replace hb := hb.alloc hb.size (.cells #[.int .u8 k, .int .i64 a, .int .i64 mn, .slice A n cp] 32 (0, 0))
  replace B := B.alloc (.cells #[.int .u8 k2, .int .i64 a2, .int .i64 mn2, .slice A2 n2 cp2] 32 (0, 0))
  replace G := G.alloc (.cells #[.int .u8 k2, .int .i64 a2, .int .i64 mn2, .slice A2 n2 cp2] 32 (0, 0))
  have G2 := CellsAt.new ((w.alloc (.cells #[.int .u32 id, .int .i64 m, .int .i64 ch, .int .i64 ro, .int .i64 lo, .int .i64 he] 24 (0, 0))).alloc (.cells #[.int .u8 k, .int .i64 a, .int .i64 mn, .slice A n cp] 32 (0, 0))) [.int .u8 k2, .int .i64 a2, .int .i64 mn2, .slice A2 n2 cp2] 32
  replace hb := hb.alloc hb.size (.cells #[.int .u8 k2, .int .i64 a2, .int .i64 mn2, .slice A2 n2 cp2] 32 (0, 0))
  simp only [World.size_alloc] at G G2
  obtain ⟨c0, c1, c2, c3, c4, c5⟩ := B.all
  obtain ⟨g0, g1, g2, g3⟩ := G.all4
  obtain ⟨g02, g12, g22, g32⟩ := G2.all4
  go_enter Try.func12, Try.ntmps12
  go_wp2_with (first
    | (go_at_call 10; (with_reducible refine (hl1 _).mono ?_); rintro e w2 ⟨Bl1, Cl1, rfl, Il1, hb2⟩; replace hb := hb.trans (hb2.mono hb.size); clear c0 c1 c2 c3 c4 c5 g0 g1 g2 g3 g02 g12 g22 g32; replace B := B.below hb2 (Nat.le_refl _); replace G := G.below hb2 (Nat.le_refl _); replace G2 := G2.below hb2 (Nat.le_refl _); clear hb2; obtain ⟨c0, c1, c2, c3, c4, c5⟩ := B.all; obtain ⟨g0, g1, g2, g3⟩ := G.all4; obtain ⟨g02, g12, g22, g32⟩ := G2.all4; have blt := B.lt; have glt := G.lt; have glt2 := G2.lt)
    | (go_at_call 10; (with_reducible refine (hl2 _).mono ?_); rintro e w3 ⟨Bl2, Cl2, rfl, Il2, hb2⟩; replace hb := hb.trans (hb2.mono hb.size); clear c0 c1 c2 c3 c4 c5 g0 g1 g2 g3 g02 g12 g22 g32; replace B := B.below hb2 (Nat.le_refl _); replace G := G.below hb2 (Nat.le_refl _); replace G2 := G2.below hb2 (Nat.le_refl _); replace Il1 := Il1.below hb2 (Nat.le_refl _); clear hb2; obtain ⟨c0, c1, c2, c3, c4, c5⟩ := B.all; obtain ⟨g0, g1, g2, g3⟩ := G.all4; obtain ⟨g02, g12, g22, g32⟩ := G2.all4; have blt := B.lt; have glt := G.lt; have glt2 := G2.lt)
    | (go_at_call 22; (with_reducible refine (hw _).mono ?_); rintro e w4 ⟨rfl, hb2⟩; replace hb := hb.trans (hb2.mono hb.size); clear c0 c1 c2 c3 c4 c5 g0 g1 g2 g3 g02 g12 g22 g32; replace B := B.below hb2 (Nat.le_refl _); replace G := G.below hb2 (Nat.le_refl _); replace G2 := G2.below hb2 (Nat.le_refl _); replace Il1 := Il1.below hb2 (Nat.le_refl _); replace Il2 := Il2.below hb2 (Nat.le_refl _); clear hb2; obtain ⟨c0, c1, c2, c3, c4, c5⟩ := B.all; obtain ⟨g0, g1, g2, g3⟩ := G.all4; obtain ⟨g02, g12, g22, g32⟩ := G2.all4; have blt := B.lt; have glt := G.lt; have glt2 := G2.lt)
    | (go_at_call 23; refine (common_calls _ _ _ l1 _ _ _ l2 _ Il1 Il2 hn hn2).mono ?_; rintro e w6 ⟨rfl, hb2⟩; replace hb := hb.trans (hb2.mono hb.size)))
  go_ret2
  exact ⟨rfl, hb⟩
set_option maxRecDepth 100000 in
set_option maxHeartbeats 4000000 in
theorem touch_rw (id m ch ro lo he k a mn k2 a2 mn2 : Int) (A A2 : Option Addr) (n cp n2 cp2 : Nat) (l1 l2 : List Int) (hn : l1.length ≤ 1000) (hn2 : l2.length ≤ 1000) (hl1 : ∀ W, Calls Try.prog 10 #[.agg #[.int .u32 id, .int .i64 m, .int .i64 ch, .int .i64 ro, .int .i64 lo, .int .i64 he], .agg #[.int .u8 k, .int .i64 a, .int .i64 mn, .slice A n cp]] W fun e w' => ∃ A' c', e = .returned (.tuple #[.slice A' l1.length c', .int .i64 0]) ∧ Ints .i64 w' A' l1.length l1 ∧ Below W.heap.size W w') (hl2 : ∀ W, Calls Try.prog 10 #[.agg #[.int .u32 id, .int .i64 m, .int .i64 ch, .int .i64 ro, .int .i64 lo, .int .i64 he], .agg #[.int .u8 k2, .int .i64 a2, .int .i64 mn2, .slice A2 n2 cp2]] W fun e w' => ∃ A' c', e = .returned (.tuple #[.slice A' l2.length c', .int .i64 0]) ∧ Ints .i64 w' A' l2.length l2 ∧ Below W.heap.size W w') (hw : ∀ W, Calls Try.prog 22 #[.agg #[.int .u8 k, .int .i64 a, .int .i64 mn, .slice A n cp]] W fun e w' => e = .returned (.bool false) ∧ Below W.heap.size W w') (hw2 : ∀ W, Calls Try.prog 22 #[.agg #[.int .u8 k2, .int .i64 a2, .int .i64 mn2, .slice A2 n2 cp2]] W fun e w' => e = .returned (.bool true) ∧ Below W.heap.size W w') (w : World) : Calls Try.prog 12 #[.agg #[.int .u32 id, .int .i64 m, .int .i64 ch, .int .i64 ro, .int .i64 lo, .int .i64 he], .agg #[.int .u8 k, .int .i64 a, .int .i64 mn, .slice A n cp], .agg #[.int .u8 k2, .int .i64 a2, .int .i64 mn2, .slice A2 n2 cp2]] w fun e w' => e = .returned (.tuple #[.bool (hitB l1 l2), .int .i64 0]) ∧ Below w.heap.size w w' := by
  have B := Box6.new w (.int .u32 id) (.int .i64 m) (.int .i64 ch) (.int .i64 ro) (.int .i64 lo) (.int .i64 he) 24
  have hb : Below w.heap.size w (w.alloc (.cells #[.int .u32 id, .int .i64 m, .int .i64 ch, .int .i64 ro, .int .i64 lo, .int .i64 he] 24 (0, 0))) := (Below.refl _ _).alloc (Nat.le_refl _) _
  replace B := B.alloc (.cells #[.int .u8 k, .int .i64 a, .int .i64 mn, .slice A n cp] 32 (0, 0))
  have G := CellsAt.new (w.alloc (.cells #[.int .u32 id, .int .i64 m, .int .i64 ch, .int .i64 ro, .int .i64 lo, .int .i64 he] 24 (0, 0))) [.int .u8 k, .int .i64 a, .int .i64 mn, .slice A n cp] 32
  replace hb := hb.alloc hb.size (.cells #[.int .u8 k, .int .i64 a, .int .i64 mn, .slice A n cp] 32 (0, 0))
  replace B := B.alloc (.cells #[.int .u8 k2, .int .i64 a2, .int .i64 mn2, .slice A2 n2 cp2] 32 (0, 0))
  replace G := G.alloc (.cells #[.int .u8 k2, .int .i64 a2, .int .i64 mn2, .slice A2 n2 cp2] 32 (0, 0))
  have G2 := CellsAt.new ((w.alloc (.cells #[.int .u32 id, .int .i64 m, .int .i64 ch, .int .i64 ro, .int .i64 lo, .int .i64 he] 24 (0, 0))).alloc (.cells #[.int .u8 k, .int .i64 a, .int .i64 mn, .slice A n cp] 32 (0, 0))) [.int .u8 k2, .int .i64 a2, .int .i64 mn2, .slice A2 n2 cp2] 32
  replace hb := hb.alloc hb.size (.cells #[.int .u8 k2, .int .i64 a2, .int .i64 mn2, .slice A2 n2 cp2] 32 (0, 0))
  simp only [World.size_alloc] at G G2
  obtain ⟨c0, c1, c2, c3, c4, c5⟩ := B.all
  obtain ⟨g0, g1, g2, g3⟩ := G.all4
  obtain ⟨g02, g12, g22, g32⟩ := G2.all4
  go_enter Try.func12, Try.ntmps12
  go_wp2_with (first
    | (go_at_call 10; (with_reducible refine (hl1 _).mono ?_); rintro e w2 ⟨Bl1, Cl1, rfl, Il1, hb2⟩; replace hb := hb.trans (hb2.mono hb.size); clear c0 c1 c2 c3 c4 c5 g0 g1 g2 g3 g02 g12 g22 g32; replace B := B.below hb2 (Nat.le_refl _); replace G := G.below hb2 (Nat.le_refl _); replace G2 := G2.below hb2 (Nat.le_refl _); clear hb2; obtain ⟨c0, c1, c2, c3, c4, c5⟩ := B.all; obtain ⟨g0, g1, g2, g3⟩ := G.all4; obtain ⟨g02, g12, g22, g32⟩ := G2.all4; have blt := B.lt; have glt := G.lt; have glt2 := G2.lt)
    | (go_at_call 10; (with_reducible refine (hl2 _).mono ?_); rintro e w3 ⟨Bl2, Cl2, rfl, Il2, hb2⟩; replace hb := hb.trans (hb2.mono hb.size); clear c0 c1 c2 c3 c4 c5 g0 g1 g2 g3 g02 g12 g22 g32; replace B := B.below hb2 (Nat.le_refl _); replace G := G.below hb2 (Nat.le_refl _); replace G2 := G2.below hb2 (Nat.le_refl _); replace Il1 := Il1.below hb2 (Nat.le_refl _); clear hb2; obtain ⟨c0, c1, c2, c3, c4, c5⟩ := B.all; obtain ⟨g0, g1, g2, g3⟩ := G.all4; obtain ⟨g02, g12, g22, g32⟩ := G2.all4; have blt := B.lt; have glt := G.lt; have glt2 := G2.lt)
    | (go_at_call 22; (with_reducible refine (hw _).mono ?_); rintro e w4 ⟨rfl, hb2⟩; replace hb := hb.trans (hb2.mono hb.size); clear c0 c1 c2 c3 c4 c5 g0 g1 g2 g3 g02 g12 g22 g32; replace B := B.below hb2 (Nat.le_refl _); replace G := G.below hb2 (Nat.le_refl _); replace G2 := G2.below hb2 (Nat.le_refl _); replace Il1 := Il1.below hb2 (Nat.le_refl _); replace Il2 := Il2.below hb2 (Nat.le_refl _); clear hb2; obtain ⟨c0, c1, c2, c3, c4, c5⟩ := B.all; obtain ⟨g0, g1, g2, g3⟩ := G.all4; obtain ⟨g02, g12, g22, g32⟩ := G2.all4; have blt := B.lt; have glt := G.lt; have glt2 := G2.lt)
    | (go_at_call 22; (with_reducible refine (hw2 _).mono ?_); rintro e w5 ⟨rfl, hb2⟩; replace hb := hb.trans (hb2.mono hb.size); clear c0 c1 c2 c3 c4 c5 g0 g1 g2 g3 g02 g12 g22 g32; replace B := B.below hb2 (Nat.le_refl _); replace G := G.below hb2 (Nat.le_refl _); replace G2 := G2.below hb2 (Nat.le_refl _); replace Il1 := Il1.below hb2 (Nat.le_refl _); replace Il2 := Il2.below hb2 (Nat.le_refl _); clear hb2; obtain ⟨c0, c1, c2, c3, c4, c5⟩ := B.all; obtain ⟨g0, g1, g2, g3⟩ := G.all4; obtain ⟨g02, g12, g22, g32⟩ := G2.all4; have blt := B.lt; have glt := G.lt; have glt2 := G2.lt)
    | (go_at_call 23; refine (common_calls _ _ _ l1 _ _ _ l2 _ Il1 Il2 hn hn2).mono ?_; rintro e w6 ⟨rfl, hb2⟩; replace hb := hb.trans (hb2.mono hb.size)))
  go_ret2
  exact ⟨rfl, hb⟩
set_option maxRecDepth 100000 in
set_option maxHeartbeats 4000000 in
theorem touch_rr (id m ch ro lo he k a mn k2 a2 mn2 : Int) (A A2 : Option Addr) (n cp n2 cp2 : Nat) (l1 l2 : List Int) (hn : l1.length ≤ 1000) (hn2 : l2.length ≤ 1000) (hl1 : ∀ W, Calls Try.prog 10 #[.agg #[.int .u32 id, .int .i64 m, .int .i64 ch, .int .i64 ro, .int .i64 lo, .int .i64 he], .agg #[.int .u8 k, .int .i64 a, .int .i64 mn, .slice A n cp]] W fun e w' => ∃ A' c', e = .returned (.tuple #[.slice A' l1.length c', .int .i64 0]) ∧ Ints .i64 w' A' l1.length l1 ∧ Below W.heap.size W w') (hl2 : ∀ W, Calls Try.prog 10 #[.agg #[.int .u32 id, .int .i64 m, .int .i64 ch, .int .i64 ro, .int .i64 lo, .int .i64 he], .agg #[.int .u8 k2, .int .i64 a2, .int .i64 mn2, .slice A2 n2 cp2]] W fun e w' => ∃ A' c', e = .returned (.tuple #[.slice A' l2.length c', .int .i64 0]) ∧ Ints .i64 w' A' l2.length l2 ∧ Below W.heap.size W w') (hw : ∀ W, Calls Try.prog 22 #[.agg #[.int .u8 k, .int .i64 a, .int .i64 mn, .slice A n cp]] W fun e w' => e = .returned (.bool false) ∧ Below W.heap.size W w') (hw2 : ∀ W, Calls Try.prog 22 #[.agg #[.int .u8 k2, .int .i64 a2, .int .i64 mn2, .slice A2 n2 cp2]] W fun e w' => e = .returned (.bool false) ∧ Below W.heap.size W w') (w : World) : Calls Try.prog 12 #[.agg #[.int .u32 id, .int .i64 m, .int .i64 ch, .int .i64 ro, .int .i64 lo, .int .i64 he], .agg #[.int .u8 k, .int .i64 a, .int .i64 mn, .slice A n cp], .agg #[.int .u8 k2, .int .i64 a2, .int .i64 mn2, .slice A2 n2 cp2]] w fun e w' => e = .returned (.tuple #[.bool false, .int .i64 0]) ∧ Below w.heap.size w w' := by
  have B := Box6.new w (.int .u32 id) (.int .i64 m) (.int .i64 ch) (.int .i64 ro) (.int .i64 lo) (.int .i64 he) 24
  have hb : Below w.heap.size w (w.alloc (.cells #[.int .u32 id, .int .i64 m, .int .i64 ch, .int .i64 ro, .int .i64 lo, .int .i64 he] 24 (0, 0))) := (Below.refl _ _).alloc (Nat.le_refl _) _
  replace B := B.alloc (.cells #[.int .u8 k, .int .i64 a, .int .i64 mn, .slice A n cp] 32 (0, 0))
  have G := CellsAt.new (w.alloc (.cells #[.int .u32 id, .int .i64 m, .int .i64 ch, .int .i64 ro, .int .i64 lo, .int .i64 he] 24 (0, 0))) [.int .u8 k, .int .i64 a, .int .i64 mn, .slice A n cp] 32
  replace hb := hb.alloc hb.size (.cells #[.int .u8 k, .int .i64 a, .int .i64 mn, .slice A n cp] 32 (0, 0))
  replace B := B.alloc (.cells #[.int .u8 k2, .int .i64 a2, .int .i64 mn2, .slice A2 n2 cp2] 32 (0, 0))
  replace G := G.alloc (.cells #[.int .u8 k2, .int .i64 a2, .int .i64 mn2, .slice A2 n2 cp2] 32 (0, 0))
  have G2 := CellsAt.new ((w.alloc (.cells #[.int .u32 id, .int .i64 m, .int .i64 ch, .int .i64 ro, .int .i64 lo, .int .i64 he] 24 (0, 0))).alloc (.cells #[.int .u8 k, .int .i64 a, .int .i64 mn, .slice A n cp] 32 (0, 0))) [.int .u8 k2, .int .i64 a2, .int .i64 mn2, .slice A2 n2 cp2] 32
  replace hb := hb.alloc hb.size (.cells #[.int .u8 k2, .int .i64 a2, .int .i64 mn2, .slice A2 n2 cp2] 32 (0, 0))
  simp only [World.size_alloc] at G G2
  obtain ⟨c0, c1, c2, c3, c4, c5⟩ := B.all
  obtain ⟨g0, g1, g2, g3⟩ := G.all4
  obtain ⟨g02, g12, g22, g32⟩ := G2.all4
  go_enter Try.func12, Try.ntmps12
  go_wp2_with (first
    | (go_at_call 10; (with_reducible refine (hl1 _).mono ?_); rintro e w2 ⟨Bl1, Cl1, rfl, Il1, hb2⟩; replace hb := hb.trans (hb2.mono hb.size); clear c0 c1 c2 c3 c4 c5 g0 g1 g2 g3 g02 g12 g22 g32; replace B := B.below hb2 (Nat.le_refl _); replace G := G.below hb2 (Nat.le_refl _); replace G2 := G2.below hb2 (Nat.le_refl _); clear hb2; obtain ⟨c0, c1, c2, c3, c4, c5⟩ := B.all; obtain ⟨g0, g1, g2, g3⟩ := G.all4; obtain ⟨g02, g12, g22, g32⟩ := G2.all4; have blt := B.lt; have glt := G.lt; have glt2 := G2.lt)
    | (go_at_call 10; (with_reducible refine (hl2 _).mono ?_); rintro e w3 ⟨Bl2, Cl2, rfl, Il2, hb2⟩; replace hb := hb.trans (hb2.mono hb.size); clear c0 c1 c2 c3 c4 c5 g0 g1 g2 g3 g02 g12 g22 g32; replace B := B.below hb2 (Nat.le_refl _); replace G := G.below hb2 (Nat.le_refl _); replace G2 := G2.below hb2 (Nat.le_refl _); replace Il1 := Il1.below hb2 (Nat.le_refl _); clear hb2; obtain ⟨c0, c1, c2, c3, c4, c5⟩ := B.all; obtain ⟨g0, g1, g2, g3⟩ := G.all4; obtain ⟨g02, g12, g22, g32⟩ := G2.all4; have blt := B.lt; have glt := G.lt; have glt2 := G2.lt)
    | (go_at_call 22; (with_reducible refine (hw _).mono ?_); rintro e w4 ⟨rfl, hb2⟩; replace hb := hb.trans (hb2.mono hb.size); clear c0 c1 c2 c3 c4 c5 g0 g1 g2 g3 g02 g12 g22 g32; replace B := B.below hb2 (Nat.le_refl _); replace G := G.below hb2 (Nat.le_refl _); replace G2 := G2.below hb2 (Nat.le_refl _); replace Il1 := Il1.below hb2 (Nat.le_refl _); replace Il2 := Il2.below hb2 (Nat.le_refl _); clear hb2; obtain ⟨c0, c1, c2, c3, c4, c5⟩ := B.all; obtain ⟨g0, g1, g2, g3⟩ := G.all4; obtain ⟨g02, g12, g22, g32⟩ := G2.all4; have blt := B.lt; have glt := G.lt; have glt2 := G2.lt)
    | (go_at_call 22; (with_reducible refine (hw2 _).mono ?_); rintro e w5 ⟨rfl, hb2⟩; replace hb := hb.trans (hb2.mono hb.size); clear c0 c1 c2 c3 c4 c5 g0 g1 g2 g3 g02 g12 g22 g32; replace B := B.below hb2 (Nat.le_refl _); replace G := G.below hb2 (Nat.le_refl _); replace G2 := G2.below hb2 (Nat.le_refl _); replace Il1 := Il1.below hb2 (Nat.le_refl _); replace Il2 := Il2.below hb2 (Nat.le_refl _); clear hb2; obtain ⟨c0, c1, c2, c3, c4, c5⟩ := B.all; obtain ⟨g0, g1, g2, g3⟩ := G.all4; obtain ⟨g02, g12, g22, g32⟩ := G2.all4; have blt := B.lt; have glt := G.lt; have glt2 := G2.lt))
  go_ret2
  exact ⟨rfl, hb⟩

/-- What Touch answers. -/
def touE (e e2 : Int) : Int := if e = 0 then e2 else e
def touB (e e2 : Int) (w : Bool) (l l2 : List Int) : Bool := if e = 0 ∧ e2 = 0 then w && hitB l l2 else false
theorem blkL_len (e a m : Int) (h : e = 0 → m ≤ 8) : (blkL e a m).length ≤ 1000 := by
  unfold blkL
  split
  · rw [rng_len]; have := h (by assumption); omega
  · simp
theorem splitBlocks (c : Cfg) (k a mn : Int) (hk : 0 ≤ k) (A : Option Addr) (n cp : Nat) (w : World) : Calls Try.prog 10 #[cfgV c, askV k a mn A n cp] w fun e w' => ∃ A' c', e = .returned (.tuple #[.slice A' (blkL (chkA c k a mn n) a mn).length c', .int .i64 (chkA c k a mn n)]) ∧ Ints .i64 w' A' (blkL (chkA c k a mn n) a mn).length (blkL (chkA c k a mn n) a mn) ∧ Below w.heap.size w w' := by
  have hc := fun W => splitCheck c k a mn hk A n cp W
  by_cases h : chkA c k a mn n = 0
  · obtain ⟨q0, q1, q2, q3, _⟩ := chkA_box h
    rw [h] at hc ⊢
    obtain ⟨M, rfl⟩ : ∃ M : Nat, mn = M := ⟨mn.toNat, by omega⟩
    rw [blkL_0, Int.toNat_natCast, rng_len]
    exact blocks_ok _ _ _ _ _ _ k a M A n cp q2 q3 (by omega) hc w
  · rw [blkL_no h]
    refine (blocks_no _ _ _ _ _ _ k a mn A n cp _ (by simpa using h) hc w).mono ?_
    rintro e w' ⟨rfl, hb⟩
    exact ⟨none, 0, rfl, ⟨rfl, by simp, by simp, .inl rfl⟩, hb⟩
theorem splitTouch (c : Cfg) (k a mn : Int) (hk : 0 ≤ k) (A : Option Addr) (n cp : Nat) (k2 a2 mn2 : Int) (hk2 : 0 ≤ k2) (A2 : Option Addr) (n2 cp2 : Nat) (w : World) : Calls Try.prog 12 #[cfgV c, askV k a mn A n cp, askV k2 a2 mn2 A2 n2 cp2] w fun e w' =>
    e = .returned (.tuple #[.bool (touB (chkA c k a mn n) (chkA c k2 a2 mn2 n2) (kWr k || kWr k2) (blkL (chkA c k a mn n) a mn) (blkL (chkA c k2 a2 mn2 n2) a2 mn2)), .int .i64 (touE (chkA c k a mn n) (chkA c k2 a2 mn2 n2))]) ∧ Below w.heap.size w w' := by
  have h1 := fun W => splitBlocks c k a mn hk A n cp W
  have h2 := fun W => splitBlocks c k2 a2 mn2 hk2 A2 n2 cp2 W
  have r1 := fun W => writes_calls k a mn hk A n cp W
  have r2 := fun W => writes_calls k2 a2 mn2 hk2 A2 n2 cp2 W
  have n1 := blkL_len (chkA c k a mn n) a mn fun q => (chkA_box q).2.1
  have n2' := blkL_len (chkA c k2 a2 mn2 n2) a2 mn2 fun q => (chkA_box q).2.1
  generalize blkL (chkA c k a mn n) a mn = l1 at *
  generalize blkL (chkA c k2 a2 mn2 n2) a2 mn2 = l2 at *
  generalize chkA c k a mn n = e1 at *
  generalize chkA c k2 a2 mn2 n2 = e2 at *
  unfold touE touB
  by_cases q1 : e1 = 0
  · subst q1
    rw [if_pos rfl]
    by_cases q2 : e2 = 0
    · subst q2
      rw [if_pos ⟨rfl, rfl⟩]
      generalize kWr k = x1 at *
      generalize kWr k2 = x2 at *
      cases x1
      · cases x2
        · exact touch_rr _ _ _ _ _ _ k a mn k2 a2 mn2 A A2 n cp n2 cp2 l1 l2 n1 n2' h1 h2 r1 r2 w
        · exact touch_rw _ _ _ _ _ _ k a mn k2 a2 mn2 A A2 n cp n2 cp2 l1 l2 n1 n2' h1 h2 r1 r2 w
      · exact touch_w _ _ _ _ _ _ k a mn k2 a2 mn2 A A2 n cp n2 cp2 l1 l2 n1 n2' h1 h2 r1 w
    · rw [if_neg (fun q => q2 q.2)]
      exact touch_no2 _ _ _ _ _ _ k a mn k2 a2 mn2 A A2 n cp n2 cp2 l1 l2 e2 (by simpa using q2) h1 h2 w
  · rw [if_neg q1, if_neg (fun q => q1 q.1)]
    exact touch_no1 _ _ _ _ _ _ k a mn k2 a2 mn2 A A2 n cp n2 cp2 l1 l2 e1 (by simpa using q1) h1 w
end Go.Proofs.Ytkjgmopgibpkjaa
