/- The walks of slices.DeleteFunc over what waits, and what it leans on. -/
import Derived.Test.YtldgpkaecfgagaaDiskF
import Derived.Laws.IdiomCopy
namespace Go.Proofs.Ytldgpkaecfgagaa
open Go.RowKit PolyM PackM FoldM DevM

theorem del_calls (bk : Nat) (k at_ : Int) (A : Option Addr) (L C : Nat) (w : World) (hc : w.cell? ⟨bk, 0, none⟩ = some (.int .i64 k)) :
    Calls Try.prog 82 #[.agg #[.int .i64 at_, .slice A L C], .pointer (some ⟨bk, 0, none⟩)] w fun e w' => e = .returned (.bool (at_ == k)) ∧ Below w.heap.size w w' := by
  have hb : Below w.heap.size w (w.alloc (.cells #[.int .i64 at_, .slice A L C] 88)) := (Below.refl _ _).alloc (Nat.le_refl _) _
  have hl := cell_lt hc
  simp only at hl
  go_enter Try.func82, Try.ntmps82
  go_wp2
  go_ret
  exact ⟨rfl, hb⟩

/-- The first place of those that wait at k, or -1. -/
def IdxOf (wt : List (Int × List Int)) (k r : Int) : Prop := (r = -1 ∧ ∀ x ∈ wt, x.1 ≠ k) ∨ ∃ i : Nat, r = i ∧ i < wt.length ∧ (∀ x ∈ wt.take i, x.1 ≠ k) ∧ ∀ x, wt[i]? = some x → x.1 = k
set_option maxRecDepth 100000 in
set_option maxHeartbeats 2000000 in
theorem index_calls (B : Option Addr) (m D : Nat) (ht : List Value) (wt : List (Int × List Int)) (bk : Nat) (k : Int) (w : World) (h : WSlab w B m ht wt) (hc : w.cell? ⟨bk, 0, none⟩ = some (.int .i64 k)) :
    Calls Try.prog 101 #[.slice B m D, .func (.func 82) #[] #[.pointer (some ⟨bk, 0, none⟩)]] w fun e w' => ∃ r, e = .returned (.int .i64 r) ∧ IdxOf wt k r ∧ Below w.heap.size w w' := by
  have hm := h.max
  have hl := Lib.hid h.len
  have hbk := cell_lt hc
  simp only at hbk
  have cd := fun (W : World) (hW : Below w.heap.size w W) (at_ : Int) (A : Option Addr) (L C : Nat) => del_calls bk k at_ A L C W ((hW.cell (p := ⟨bk, 0, none⟩) hbk).trans hc)
  go_enter Try.func101, Try.ntmps101
  go_wp2
  go_loopw [8] (fun i wr => ∃ j : Nat, j ≤ m ∧ i = .int .i64 j ∧ Below w.heap.size w wr ∧ Hid (∀ x ∈ wt.take j, x.1 ≠ k)) (fun i _ => m - (intOf i).toNat)
  case atStart => exact ⟨0, by omega, rfl, Below.refl _ _, fun x hx => by simp at hx⟩
  case round =>
    obtain ⟨j, hj, rfl, hbj, hne⟩ := hrel
    by_cases hjm : j < m
    · obtain ⟨b, off, A1, L1, C1, x, rfl, _, hls, hcat, hcell, wx, hi, _, _⟩ := (h.below hbj (Nat.le_refl _)).at hjm
      have cx := cd wr hbj x.1 A1 L1 C1
      have hls' := Lib.hid hls
      obtain ⟨at_, dat⟩ := x
      simp only at *
      clear hls hi wx cd
      by_cases hk : at_ = k
      · have hI : Hid (IdxOf wt k (j : Int)) := Lib.hid (.inr ⟨j, rfl, by rw [hl.out]; exact hjm, hne.out, fun x hx => by rw [hls'.out] at hx; injection hx with hx; rw [← hx]; exact hk⟩)
        have hk1 : (at_ == k) = true := by simp [hk]
        rw [hk1] at cx
        clear hk hk1
        go_wp2_with (go_at_call 82; refine cx.mono ?_; rintro e w3 ⟨rfl, hb3⟩)
        go_ret
        exact ⟨_, rfl, hI.out, hbj.trans (hb3.mono hbj.size)⟩
      · have F : Hid (∀ x ∈ wt.take (j + 1), x.1 ≠ k) := by
          refine Lib.hid ?_
          rw [take_snocL hls'.out]
          intro x hx
          rcases List.mem_append.1 hx with q | q
          · exact hne.out x q
          · rw [List.mem_singleton.1 q]; exact hk
        have hk1 : (at_ == k) = false := by simp [hk]
        rw [hk1] at cx
        clear hk hk1
        go_wp2_with (go_at_call 82; refine cx.mono ?_; rintro e w3 ⟨rfl, hb3⟩)
        go_roundw
        case rel => exact ⟨j + 1, by omega, by go_num, hbj.trans (hb3.mono hbj.size), F⟩
        case measure => simp [intOf]; omega
    · obtain rfl : m = j := by omega
      have hI : Hid (IdxOf wt k (-1)) := by
        refine Lib.hid (.inl ⟨rfl, ?_⟩)
        have := hne.out
        rwa [List.take_of_length_le (by rw [hl.out]; exact Nat.le_refl _)] at this
      go_wp2
      go_ret
      exact ⟨_, rfl, hI.out, hbj⟩

theorem grown_set (w : World) (g k : Nat) (u : Value) : w.grownBy (w.setCell ⟨g, k, none⟩ u) (some g) :=
  ⟨rfl, rfl, rfl, by simp, fun i _ hne => Below.heap_setCell _ _ _ _ (fun e => hne (by rw [e]))⟩
theorem set_cells (g : Nat) (t : TypeId) : ∀ (vs : List Value) (o : Nat) (w : World) (cur : Array Value), w.heap[g]? = some (.cells cur t (0, 0)) →
    w.grownBy (w.setCells g o vs) (some g) ∧ ∃ cur', (w.setCells g o vs).heap[g]? = some (.cells cur' t (0, 0)) ∧ cur'.size = cur.size ∧ ∀ j, j < o → cur'[j]? = cur[j]?
  | [], o, w, cur, h => ⟨World.grownBy.refl _ _, cur, h, rfl, fun _ _ => rfl⟩
  | v :: vs, o, w, cur, h => by
    obtain ⟨h1, cur', h2, h3, h4⟩ := set_cells g t vs (o + 1) (w.setCell ⟨g, o, none⟩ v) _ (heap_setCell_same _ _ _ _ _ _ h)
    refine ⟨(grown_set w g o v).trans h1, cur', h2, by rw [h3]; simp, fun j hj => ?_⟩
    rw [h4 j (by omega), Array.getElem?_setIfInBounds, if_neg (by omega)]
theorem run_clear_rows (w : World) (t e ty : TypeId) (z : Value) (ht : Try.prog.underlying t = some (.slice e)) (hv : (zeroValue e).run Try.prog w = .ok z w) (_hz : ∀ v ∈ (Builtin.zeroCells z.cells 1).toList, v.oneCell' = true) (k : Nat) (hk : z.cells.size = k) (hzc : ∀ n, ∀ v ∈ (Builtin.zeroCells z.cells n).toList, v.oneCell' = true) (b o n c : Nat) (hn : 0 < n)
    (hc : ∀ j, j < n * k → (w.cell? ⟨b, o + j, none⟩).isSome = true) (hf : ∀ j, j < n * k → w.frozen? ⟨b, o + j, none⟩ = false) :
    (Builtin.clear_ #[t] ty #[.slice (some ⟨b, o, none⟩) n c]).run Try.prog w = .ok (.tuple #[]) (w.setCells b o (Builtin.zeroCells z.cells n).toList) := by
  have hsz : (Builtin.zeroCells z.cells n).toList.length = n * k := by rw [Array.length_toList, size_zeroCells, hk]
  have hst := run_storeCells_cells (P := Try.prog) b o (Builtin.zeroCells z.cells n).toList 0 w (by rw [hsz]; simpa using hc) (by rw [hsz]; simpa using hf) (hzc n)
  simp only [Nat.add_zero] at hst
  obtain ⟨m, rfl⟩ : ∃ m, n = m + 1 := ⟨n - 1, by omega⟩
  simp [Builtin.clear_, run_underlying ht, hv, hst]

theorem zero_write (w : World) : (zeroValue 88).run Try.prog w = .ok (.agg #[.int .i64 0, .slice none 0 0]) w := by kernel_rfl
theorem zero_cells_one (n : Nat) : ∀ v ∈ (Builtin.zeroCells (Value.agg #[.int .i64 0, .slice none 0 0]).cells n).toList, v.oneCell' = true := by
  intro v hv
  have hc : (Value.agg #[.int .i64 0, .slice none 0 0]).cells = #[.int .i64 0, .slice none 0 0] := rfl
  rw [hc] at hv
  simp only [Builtin.zeroCells, Array.toList_map, List.mem_map] at hv
  obtain ⟨i, _, rfl⟩ := hv
  have : i % 2 = 0 ∨ i % 2 = 1 := by omega
  rcases this with q | q
  · show ((#[.int .i64 0, .slice none 0 0] : Array Value)[i % 2]!).oneCell' = true
    rw [q]; rfl
  · show ((#[.int .i64 0, .slice none 0 0] : Array Value)[i % 2]!).oneCell' = true
    rw [q]; rfl
theorem own_take {w : World} {base n C g k size : Nat} {e : TypeId} {hs : List Value} (own : w.ownsRow base e size (.slice (some ⟨g, 0, none⟩) n C) n hs) (hk : k ≤ n) : w.ownsRow base e size (.slice (some ⟨g, 0, none⟩) k C) k (hs.take (k * size)) := by
  obtain ⟨h1, ⟨h2, _⟩ | ⟨g', cap, cur, e1, hb, hh, hnc, hm, hsz, ht⟩⟩ := own
  · cases h2
  · cases e1
    have hle : k * size ≤ n * size := Nat.mul_le_mul_right _ hk
    refine ⟨by rw [List.length_take, h1]; omega, .inr ⟨g, C, cur, rfl, hb, hh, by omega, hm, hsz, ?_⟩⟩
    rw [← ht, List.take_take, Nat.min_eq_left hle]
/-- A row whose tail is set. -/
theorem own_tail {w : World} {base n C g k size : Nat} {e : TypeId} {hs vs : List Value} (own : w.ownsRow base e size (.slice (some ⟨g, 0, none⟩) n C) n hs) (hk : k ≤ n) : (w.setCells g (k * size) vs).ownsRow base e size (.slice (some ⟨g, 0, none⟩) k C) k (hs.take (k * size)) := by
  obtain ⟨h1, ⟨h2, _⟩ | ⟨g', cap, cur, e1, hb, hh, hnc, hm, hsz, ht⟩⟩ := own
  · cases h2
  · cases e1
    have hle : k * size ≤ n * size := Nat.mul_le_mul_right _ hk
    obtain ⟨_, cur', q1, q2, q3⟩ := set_cells g e vs (k * size) w cur hh
    refine ⟨by rw [List.length_take, h1]; omega, .inr ⟨g, C, cur', rfl, hb, q1, by omega, hm, by rw [q2]; exact hsz, ?_⟩⟩
    rw [← ht, List.take_take, Nat.min_eq_left hle]
    apply List.ext_getElem?
    intro i
    rw [List.getElem?_take, List.getElem?_take]
    split
    · rename_i q
      rw [Array.getElem?_toList, Array.getElem?_toList, q3 i q]
    · rfl
def keepB (k : Int) (x : Int × List Int) : Bool := x.1 != k
/-- What holds while those at place k are taken away: i are kept of the first j. -/
def DelR (K : Nat) (W : World) (g D m : Nat) (ht : List Value) (wt : List (Int × List Int)) (k : Int) (i j : Nat) (wr : World) : Prop :=
  i < j ∧ j ≤ m ∧ ∃ ht', wr.ownsRow K 88 2 (.slice (some ⟨g, 0, none⟩) m D) m ht' ∧ Waits wr (ht'.take (i * 2)) ((wt.take j).filter (keepB k)) ∧ High K wr (ht'.take (i * 2)) ∧ (∀ q, j * 2 ≤ q → ht'[q]? = ht[q]?) ∧ W.grownBy wr (some g)
theorem grown_below {W w w' : World} {r : Option Nat} (h : W.grownBy w r) (hb : Below w.heap.size w w') : W.grownBy w' r :=
  h.trans ⟨hb.os, hb.tape, hb.output, hb.size, fun i hi _ => hb.block i hi⟩
theorem DelR.below {K : Nat} {W : World} {g D m : Nat} {ht : List Value} {wt : List (Int × List Int)} {k : Int} {i j : Nat} {wr w' : World} (h : DelR K W g D m ht wt k i j wr) (hb : Below wr.heap.size wr w') : DelR K W g D m ht wt k i j w' := by
  obtain ⟨q1, q2, ht', o, h2, g2, h3, hg⟩ := h
  exact ⟨q1, q2, ht', own_below o hb, h2.below hb (Nat.le_refl _), g2.below hb, h3, grown_below hg hb⟩
theorem DelR.drop {K : Nat} {W : World} {g D m : Nat} {ht : List Value} {wt : List (Int × List Int)} {k : Int} {i j : Nat} {wr : World} (h : DelR K W g D m ht wt k i j wr) {x : Int × List Int} (hx : wt[j]? = some x) (hk : x.1 = k) (hj : j < m) : DelR K W g D m ht wt k i (j + 1) wr := by
  obtain ⟨q1, q2, ht', o, h2, g2, h3, hg⟩ := h
  refine ⟨by omega, by omega, ht', o, ?_, g2, fun q hq => h3 q (by omega), hg⟩
  rw [take_snocL hx, List.filter_append, List.filter_cons, if_neg (by simp [keepB, hk]), List.filter_nil, List.append_nil]
  exact h2
theorem DelR.keep {K : Nat} {W : World} {g D m : Nat} {ht : List Value} {wt : List (Int × List Int)} {k : Int} {i j : Nat} {wr : World} (h : DelR K W g D m ht wt k i j wr) {x : Int × List Int} (hx : wt[j]? = some x) (hk : x.1 ≠ k) (hj : j < m) (hw : (Lit.int .i64 x.1).wf = true) {A : Option Addr} {L C : Nat} (hI : Ints .u8 wr A L x.2) (hH : High K wr [.slice A L C]) :
    DelR K W g D m ht wt k (i + 1) (j + 1) ((wr.setCell ⟨g, i * 2, none⟩ (.int .i64 x.1)).setCell ⟨g, i * 2 + 1, none⟩ (.slice A L C)) := by
  obtain ⟨q1, q2, ht', o, h2, g2, h3, hg⟩ := h
  have hlen : ht'.length = m * 2 := o.1
  have kind : ∀ (b : Nat) (cs : Array Value), wr.heap[b]? = some (.cells cs 5 (0, 0)) → some b ≠ some g := fun b cs h => own_kind o h (by decide)
  have hg2 : wr.grownBy ((wr.setCell ⟨g, i * 2, none⟩ (.int .i64 x.1)).setCell ⟨g, i * 2 + 1, none⟩ (.slice A L C)) (some g) := (grown_set _ _ _ _).trans (grown_set _ _ _ _)
  have e : ((ht'.set (i * 2) (.int .i64 x.1)).set (i * 2 + 1) (.slice A L C)).take ((i + 1) * 2) = ht'.take (i * 2) ++ [.int .i64 x.1, .slice A L C] := by
    rw [show (i + 1) * 2 = i * 2 + 1 + 1 by omega, take_snocL (x := .slice A L C) (by rw [List.getElem?_set, if_pos rfl, if_pos (by rw [List.length_set]; omega)]), List.take_set_of_le (Nat.le_refl _),
      take_snocL (x := .int .i64 x.1) (by rw [List.getElem?_set, if_pos rfl, if_pos (by omega)]), List.take_set_of_le (Nat.le_refl _), List.append_assoc]
    rfl
  refine ⟨by omega, by omega, _, own_set (own_set o _) _, ?_, ?_, fun q hq => ?_, hg.trans hg2⟩
  · rw [e, take_snocL hx, List.filter_append, List.filter_cons, if_pos (by simp [keepB, hk]), List.filter_nil]
    have hH2 : High K wr (ht'.take (i * 2) ++ [.int .i64 x.1, .slice A L C]) := by
      have := (g2.append (High.scalar .i64 x.1)).append hH
      rwa [List.append_assoc] at this
    exact (h2.push hw hI).grownH hg2 (hH2.off kind)
  · rw [e]
    have hH2 : High K wr (ht'.take (i * 2) ++ [.int .i64 x.1, .slice A L C]) := by
      have := (g2.append (High.scalar .i64 x.1)).append hH
      rwa [List.append_assoc] at this
    exact hH2.grown hg2 kind
  · rw [List.getElem?_set, if_neg (by omega), List.getElem?_set, if_neg (by omega)]
    exact h3 q (by omega)
theorem Waits.take {w : World} {hs : List Value} {ls : List (Int × List Int)} (h : Waits w hs ls) (k : Nat) : Waits w (hs.take (k * 2)) (ls.take k) := by
  refine ⟨by rw [List.length_take, List.length_take, h.1]; omega, fun i x hx => ?_⟩
  rw [List.getElem?_take] at hx
  split at hx
  · rename_i q
    obtain ⟨h1, A, L, C, e0, e1, e2⟩ := h.2 i x hx
    exact ⟨h1, A, L, C, by rw [List.getElem?_take, if_pos (by omega)]; exact e0, by rw [List.getElem?_take, if_pos (by omega)]; exact e1, e2⟩
  · cases hx
theorem DelR.start {K : Nat} {W w1 : World} {g D m i : Nat} {ht : List Value} {wt : List (Int × List Int)} {k : Int} (o : W.ownsRow K 88 2 (.slice (some ⟨g, 0, none⟩) m D) m ht) (h2 : Waits W ht wt) (g2 : High K W ht) (hb : Below W.heap.size W w1) (hi : i < wt.length) (hne : ∀ x ∈ wt.take i, x.1 ≠ k) (hk : ∀ x, wt[i]? = some x → x.1 = k) :
    DelR K W g D m ht wt k i (i + 1) w1 := by
  have hl : wt.length = m := by have := h2.1; have := o.1; omega
  have hx : wt[i]? = some (wt[i]) := List.getElem?_eq_getElem hi
  refine ⟨by omega, by omega, ht, own_below o hb, ?_, (g2.sub fun u hu => List.mem_of_mem_take hu).below hb, fun _ _ => rfl, ⟨hb.os, hb.tape, hb.output, hb.size, fun i hi _ => hb.block i hi⟩⟩
  rw [take_snocL hx, List.filter_append, List.filter_cons, if_neg (by simp [keepB, hk _ hx]), List.filter_nil, List.append_nil, List.filter_eq_self.2 (fun x hx => by simp [keepB, hne x hx])]
  exact (h2.take i).below hb (Nat.le_refl _)
theorem slice_from2 (g n c i : Nat) (h : i < n) (hc : n ≤ c) (W : World) : (Instr.slice 23 (.slice (some ⟨g, 0, none⟩) n c) (some (.int .i64 (i : Int))) none none).run Try.prog W = .ok (.slice (some ⟨g, i * 2, none⟩) (n - i) (c - i)) W := by
  rw [run_slice_l (P := Try.prog) (w := W) 23 _ n c (by kernel_rfl) .i64 (i : Int) (by omega) (by omega)]
  have hs : (sizeOf (Try.prog.elem 23)).run Try.prog W = .ok 2 W := by kernel_rfl
  rw [hs]
  simp only [Result.andThen, sliced, Int.toNat_natCast]
  rw [if_neg (by omega)]
  simp [Addr.add]
  omega
theorem slice_to2 (g n c i : Nat) (h : i ≤ c) (W : World) : (Instr.slice 23 (.slice (some ⟨g, 0, none⟩) n c) none (some (.int .i64 (i : Int))) none).run Try.prog W = .ok (.slice (some ⟨g, 0, none⟩) i c) W := by
  rw [run_slice_h (P := Try.prog) (w := W) 23 _ n c (by kernel_rfl) .i64 (i : Int) (by omega) (by omega)]
  have hs : (sizeOf (Try.prog.elem 23)).run Try.prog W = .ok 2 W := by kernel_rfl
  rw [hs]
  simp [Result.andThen, sliced, Addr.add]
def DelIs (K : Nat) (W : World) (B : Option Addr) (m D : Nat) (wt : List (Int × List Int)) (k : Int) (e : Ending) (w' : World) : Prop :=
  ∃ j ht', e = .returned (.slice B j D) ∧ j ≤ m ∧ w'.ownsRow K 88 2 (.slice B j D) j ht' ∧ Waits w' ht' (wt.filter (keepB k)) ∧ High K w' ht' ∧ W.grownBy w' (Value.slice B m D).ownBlock

set_option maxRecDepth 100000 in
set_option maxHeartbeats 4000000 in
theorem delete_calls (K : Nat) (B : Option Addr) (m D : Nat) (ht : List Value) (wt : List (Int × List Int)) (bk : Nat) (k : Int) (W : World) (o : W.ownsRow K 88 2 (.slice B m D) m ht) (h2 : Waits W ht wt) (g2 : High K W ht) (xk : W.heap[bk]? = some (.cells #[.int .i64 k] 3 (0, 0))) (hm : m ≤ 1100) :
    Calls Try.prog 81 #[.slice B m D, .func (.func 82) #[] #[.pointer (some ⟨bk, 0, none⟩)]] W (DelIs K W B m D wt k) := by
  have hck : W.cell? ⟨bk, 0, none⟩ = some (.int .i64 k) := cell_of_row _ _ 0 _ _ _ xk
  have hS : WSlab W B m ht wt := by
    obtain ⟨B', D', e, _, r, _⟩ := own_form o
    cases e
    exact ⟨r, by omega, h2⟩
  have ci := index_calls B m D ht wt bk k W hS hck
  have hl := Lib.hid hS.len
  have O := Lib.hid o
  have H2 := Lib.hid h2
  have G2 := Lib.hid g2
  have hbkl := heap_lt xk
  have hbk : bk ≠ 0 ∨ bk = 0 := by omega
  have hnk : some bk ≠ (Value.slice B m D).ownBlock := own_kind o xk (by decide)
  have XK := Lib.hid xk
  clear o h2 g2 hS xk hbk
  go_enter Try.func81, Try.ntmps81
  go_wp2_with fail
  (with_reducible refine ci.mono ?_)
  rintro e w1 ⟨r, rfl, hr, hb1⟩
  clear ci hck
  rcases hr with ⟨rfl, hall⟩ | ⟨i0, rfl, hi0, hne, hk⟩
  · have hf : wt.filter (keepB k) = wt := List.filter_eq_self.2 (fun x hx => by simp [keepB, hall x hx])
    have hR : Hid (DelIs K W B m D wt k (.returned (.slice B m D)) w1) := Lib.hid ⟨m, ht, rfl, Nat.le_refl _, own_below O.out hb1, by rw [hf]; exact H2.out.below hb1 (Nat.le_refl _), G2.out.below hb1, ⟨hb1.os, hb1.tape, hb1.output, hb1.size, fun i hi _ => hb1.block i hi⟩⟩
    clear hall hf hnk
    go_wp2
    go_ret
    exact hR.out
  · obtain ⟨g, C1, q, hKg, hgl⟩ := own_head O.out (by have := hl.out; omega)
    cases q
    have hT0 := Lib.hid (DelR.start O.out H2.out G2.out hb1 hi0 hne hk)
    have hcapD : m ≤ D ∧ D ≤ 9223372036854775807 := by
      obtain ⟨_, ⟨q, _⟩ | ⟨g', cap, cur, e1, _, _, h1, h2, _⟩⟩ := O.out
      · cases q
      · cases e1
        exact ⟨h1, by simpa [maxLen] using h2⟩
    obtain ⟨hcD1, hcD2⟩ := hcapD
    have hi0m : i0 < m := by have := hl.out; omega
    have hne1 : ((i0 : Int) == -1) = false := beq_eq_false_iff_ne.2 (by omega)
    clear hi0 hne hk
    go_wp2
    go_loopw [5, 6] (fun i j wr => ∃ i' j' : Nat, i = .int .i64 i' ∧ j = .int .i64 j' ∧ j' ≤ m ∧ i' < j' ∧ DelR K W g D m ht wt k i' j' wr) (fun _ j _ => m - (intOf j).toNat)
    case atStart => exact ⟨i0, i0 + 1, rfl, by go_num, by omega, by omega, hT0.out⟩
    case round =>
      obtain ⟨i', j', rfl, rfl, hj, hij, hT⟩ := hrel
      clear hT0 hne1
      by_cases hjm : j' < m
      · obtain ⟨_, _, ht', o', h2', g2', h3', hg'⟩ := id hT
        have hx : wt[j']? = some (wt[j']'(by have := hl.out; omega)) := List.getElem?_eq_getElem _
        generalize wt[j']'(by have := hl.out; omega) = x at hx
        obtain ⟨hw, A, L, C, e0, e1, hI⟩ := H2.out.2 j' x hx
        have hkind : ∀ (b : Nat) (cs : Array Value), W.heap[b]? = some (.cells cs 5 (0, 0)) → some b ≠ some g := fun b cs h => own_kind O.out h (by decide)
        have hHx : High K W [.slice A L C] := G2.out.sub fun u hu => by rw [List.mem_singleton.1 hu]; exact List.mem_of_getElem? e1
        have hIr : Ints .u8 wr A L x.2 := hI.grown hg' fun ad e h0 => hHx.off hkind _ (List.mem_singleton.2 rfl) ad L C (by rw [e]) h0
        have hHr : High K wr [.slice A L C] := hHx.grown hg' hkind
        have cj0 := (own_cell (k := j' * 2) o' (by rw [h3' _ (by omega)]; exact e0)).1
        have cj1 := (own_cell (k := j' * 2 + 1) o' (by rw [h3' _ (by omega)]; exact e1)).1
        have hglr : g < wr.heap.size := Nat.lt_of_lt_of_le hgl hg'.size
        have xkr : wr.heap[bk]? = some (.cells #[.int .i64 k] 3 (0, 0)) := (hg'.block bk hbkl hnk).trans XK.out
        have hbx : Below wr.heap.size wr (wr.alloc (.cells #[.int .i64 x.1, .slice A L C] 88)) := (Below.refl _ _).alloc (Nat.le_refl _) _
        have cd := del_calls bk k x.1 A L C (wr.alloc (.cells #[.int .i64 x.1, .slice A L C] 88)) ((hbx.cell (p := ⟨bk, 0, none⟩) (heap_lt xkr)).trans (cell_of_row _ _ 0 _ _ _ xkr))
        have hT' := Lib.hid hT
        have hx' := Lib.hid hx
        have hIr' := Lib.hid hIr
        obtain ⟨u0, hu0⟩ : ∃ u0, ht'[i' * 2]? = some u0 := ⟨_, List.getElem?_eq_getElem (by have := o'.1; omega)⟩
        obtain ⟨u1, hu1⟩ : ∃ u1, ht'[i' * 2 + 1]? = some u1 := ⟨_, List.getElem?_eq_getElem (by have := o'.1; omega)⟩
        have ci0 := own_cell o' hu0
        have ci1 := own_cell o' hu1
        have hfa : ∀ W', Below (wr.alloc (.cells #[.int .i64 x.1, .slice A L C] 88)).heap.size (wr.alloc (.cells #[.int .i64 x.1, .slice A L C] 88)) W' → Below wr.heap.size wr W' ∧ W'.cell? ⟨g, i' * 2, none⟩ = some u0 ∧ W'.frozen? ⟨g, i' * 2, none⟩ = false ∧ W'.cell? ⟨g, i' * 2 + 1, none⟩ = some u1 ∧ W'.frozen? ⟨g, i' * 2 + 1, none⟩ = false ∧ W'.cell? ⟨wr.heap.size, 0, none⟩ = some (.int .i64 x.1) ∧ W'.cell? ⟨wr.heap.size, 1, none⟩ = some (.slice A L C) := fun W' hW' => by
          have hb := hbx.trans (hW'.mono hbx.size)
          refine ⟨hb, (hb.cell (p := ⟨g, i' * 2, none⟩) hglr).trans ci0.1, (hb.frozen (p := ⟨g, i' * 2, none⟩) hglr).trans ci0.2, (hb.cell (p := ⟨g, i' * 2 + 1, none⟩) hglr).trans ci1.1, (hb.frozen (p := ⟨g, i' * 2 + 1, none⟩) hglr).trans ci1.2, ?_, ?_⟩
          · exact (hW'.cell (p := ⟨wr.heap.size, 0, none⟩) (by simp)).trans (cell_of_row _ _ 0 _ _ _ (heap_alloc_new _ _))
          · exact (hW'.cell (p := ⟨wr.heap.size, 1, none⟩) (by simp)).trans (cell_of_row _ _ 1 _ _ _ (heap_alloc_new _ _))
        have hfa' := Lib.hid hfa
        have hkn1 : (j' : Int) < (m : Int) := by omega
        have hij1 : (i' : Int) < (m : Int) := by omega
        obtain ⟨at_, dat⟩ := x
        simp only at *
        clear hT hx hI hIr hHx hkind e0 e1 hu0 hu1 o' h2' g2' h3' hg' xkr hbx hfa ci0 ci1
        by_cases hk : at_ = k
        · have hk1 : (at_ == k) = true := by simp [hk]
          rw [hk1] at cd
          have hk' := Lib.hid hk
          clear hk hk1
          go_wp2_with (go_at_call 82; refine cd.mono ?_; rintro e w3 ⟨rfl, hb3⟩)
          go_roundw
          case rel => exact ⟨i', j' + 1, rfl, by go_num, by omega, by omega, (hT'.out.drop hx'.out hk'.out hjm).below (hfa'.out _ hb3).1⟩
          case measure => simp [intOf]; omega
        · have hk1 : (at_ == k) = false := by simp [hk]
          rw [hk1] at cd
          have hk' := Lib.hid hk
          clear hk hk1
          go_wp2_with (go_at_call 82; refine cd.mono ?_; rintro e w3 ⟨rfl, hb3⟩; obtain ⟨hbb, p0, p1, p2, p3, p4, p5⟩ := hfa'.out _ hb3)
          go_roundw
          case rel => exact ⟨i' + 1, j' + 1, by go_num, by go_num, by omega, by omega, (hT'.out.below hbb).keep hx'.out hk'.out hjm hw (hIr'.out.below hbb (Nat.le_refl _)) (hHr.below hbb)⟩
          case measure => simp [intOf]; omega
      · obtain rfl : m = j' := by omega
        obtain ⟨_, _, ht', o', h2', g2', h3', hg'⟩ := id hT
        have hs1 := slice_from2 g m D i' hij hcD1
        have hs2 := slice_to2 g m D i' (by omega)
        have hcl : ∀ ty, (Builtin.clear_ #[23] ty #[.slice (some ⟨g, i' * 2, none⟩) (m - i') (D - i')]).run Try.prog wr = .ok (.tuple #[]) (wr.setCells g (i' * 2) (Builtin.zeroCells (Value.agg #[.int .i64 0, .slice none 0 0]).cells (m - i')).toList) := fun ty =>
          run_clear_rows wr _ _ ty _ Try.underlying23 (zero_write wr) (zero_cells_one 1) 2 rfl zero_cells_one g (i' * 2) (m - i') (D - i') (by omega)
            (fun q hq => by
              obtain ⟨u, hu⟩ : ∃ u, ht'[i' * 2 + q]? = some u := ⟨_, List.getElem?_eq_getElem (by have := o'.1; omega)⟩
              rw [(own_cell o' hu).1]; rfl)
            (fun q hq => by
              obtain ⟨u, hu⟩ : ∃ u, ht'[i' * 2 + q]? = some u := ⟨_, List.getElem?_eq_getElem (by have := o'.1; omega)⟩
              exact (own_cell o' hu).2)
        have hR : Hid (DelIs K W (some ⟨g, 0, none⟩) m D wt k (.returned (.slice (some ⟨g, 0, none⟩) i' D)) (wr.setCells g (i' * 2) (Builtin.zeroCells (Value.agg #[.int .i64 0, .slice none 0 0]).cells (m - i')).toList)) := by
          refine Lib.hid ?_
          have hkind : ∀ (b : Nat) (cs : Array Value), wr.heap[b]? = some (.cells cs 5 (0, 0)) → some b ≠ some g := fun b cs h => own_kind o' h (by decide)
          obtain ⟨gg, hh, hcur⟩ : ∃ cur, wr.heap[g]? = some (.cells cur 88 (0, 0)) ∧ True := by
            obtain ⟨_, ⟨q, _⟩ | ⟨g', cap, cur, e1, _, hh, _⟩⟩ := o'
            · cases q
            · cases e1
              exact ⟨cur, hh, trivial⟩
          have hsg := (set_cells g _ (Builtin.zeroCells (Value.agg #[.int .i64 0, .slice none 0 0]).cells (m - i')).toList (i' * 2) wr gg hh).1
          have hft : (wt.take m).filter (keepB k) = wt.filter (keepB k) := by rw [List.take_of_length_le (by rw [hl.out]; exact Nat.le_refl _)]
          rw [hft] at h2'
          exact ⟨i', _, rfl, by omega, own_tail o' (by omega), h2'.grownH hsg (g2'.off hkind), g2'.grown hsg hkind, hg'.trans hsg⟩
        clear hT o' h2' g2' h3' hg' hnk
        go_wp2
        go_ret
        exact hR.out
end Go.Proofs.Ytldgpkaecfgagaa
