/- The walk of slices.Backward over what waits: a range over a function from behind. -/
import Derived.Test.YtldgpkaecfgagaaDiskC
import Derived.RangeFuncNested
import Derived.RangeFuncLeaves
import Derived.Shelf.Abstract
import Derived.OwnWalkIn
import Derived.TacticsInMore
import Derived.LoopNIn
import Derived.LoopIn
namespace Go.Proofs.Ytldgpkaecfgagaa
open Go.RowKit PolyM PackM FoldM DevM

attribute [local go_sem] Oper.semAt_some

/-- One that waits, as it comes out of the loop. -/
structure Elt (w0 : World) (ht : List Value) (wt : List (Int × List Int)) where
  i : Nat
  at_ : Int
  dat : List Int
  A : Option Addr
  L : Nat
  C : Nat
  hx : wt[i]? = some (at_, dat)
  h0 : ht[i * 2]? = some (.int .i64 at_)
  h1 : ht[i * 2 + 1]? = some (.slice A L C)
  hI : Ints .u8 w0 A L dat
  hw : (Lit.int .i64 at_).wf = true
def encE {w0 : World} {ht : List Value} {wt : List (Int × List Int)} (e : Elt w0 ht wt) : Array Value := #[.int .i64 (e.i : Int), .agg #[.int .i64 e.at_, .slice e.A e.L e.C]]
theorem elt_of {w0 : World} {ht : List Value} {wt : List (Int × List Int)} (h : Waits w0 ht wt) {i : Nat} (hi : i < wt.length) : ∃ e : Elt w0 ht wt, e.i = i := by
  have hx : wt[i]? = some (wt[i]) := List.getElem?_eq_getElem hi
  obtain ⟨h1, A, L, C, e0, e1, e2⟩ := h.2 i _ hx
  exact ⟨⟨i, _, _, A, L, C, hx, e0, e1, e2, h1⟩, rfl⟩

/-- All from place q on have come. -/
def Came {w0 : World} {ht : List Value} {wt : List (Int × List Int)} (m : Nat) (j : Int) (pre : List (Elt w0 ht wt)) : Prop := pre.length = ((m : Int) - 1 - j).toNat ∧ ∀ q : Nat, j < (q : Int) → q < m → ∃ e ∈ pre, e.i = q
theorem Came.next {w0 : World} {ht : List Value} {wt : List (Int × List Int)} {m q : Nat} {pre : List (Elt w0 ht wt)} (h : Came m (q : Int) pre) (hq : q < m) {e : Elt w0 ht wt} (he : e.i = q) : Came m ((q : Int) - 1) (pre ++ [e]) := by
  refine ⟨by rw [List.length_append, h.1]; simp; omega, fun r h1 h2 => ?_⟩
  by_cases e2 : r = q
  · exact ⟨e, List.mem_append.2 (.inr (List.mem_singleton.2 rfl)), by rw [he, e2]⟩
  · obtain ⟨e', h3, h4⟩ := h.2 r (by omega) h2
    exact ⟨e', List.mem_append.2 (.inl h3), h4⟩

set_option maxRecDepth 100000 in
set_option maxHeartbeats 2000000 in
theorem back1_in (n : Nat) (hn : 1 ≤ n) (l Bs n₀ : Nat) (w0 : World) (B : Option Addr) (m D : Nat) (ht : List Value) (wt : List (Int × List Int)) (h : WSlab w0 B m ht wt) (hn0 : w0.heap.size ≤ n₀) (hBs : Bs < n₀) (J Jx : List (Elt w0 ht wt) → World → Prop)
    (hY : ∀ pre x W, J pre W → pre.length < m → YieldAt Fence.wide (n - 1) Try.prog l (encE x) W fun e W' =>
      (e = .returned (.bool true) ∧ J (pre ++ [x]) W' ∧ Below n₀ W W') ∨ (e = .returned (.bool false) ∧ Jx (pre ++ [x]) W'))
    (W : World) (hW : Below w0.heap.size w0 W) (hc : W.cell? ⟨Bs, 0, none⟩ = some (.slice B m D)) (h0 : J [] W) :
    CallsIn Fence.wide n Try.prog 98 #[.func (.yield l) #[] #[], .pointer (some ⟨Bs, 0, none⟩)] W fun e W' => (∃ v, e = .returned v) ∧
      ((∃ ys, Came m (-1) ys ∧ J ys W') ∨ (∃ pre, (∃ (q : Nat) (pre' : List (Elt w0 ht wt)) (e : Elt w0 ht wt), pre = pre' ++ [e] ∧ e.i = q ∧ q < m ∧ Came m (q : Int) pre') ∧ Jx pre W')) := by
  have hm := h.max
  have hl := Lib.hid h.len
  refine callsIn_of_wp Try.func98 rfl trivial ?_ rfl
  simp only [Try.ntmps98, List.size_toArray, List.length_cons, List.length_nil, Nat.reduceAdd, Nat.reduceSub, Array.replicate_succ, Array.replicate_zero, List.push_toArray, List.append_toArray, List.nil_append, List.cons_append]
  gi_wp2
  gi_loopw [3] (fun i wr => ∃ (j : Int) (pre : List (Elt w0 ht wt)), -1 ≤ j ∧ j < m ∧ i = .int .i64 j ∧ Came m j pre ∧ J pre wr ∧ Below n₀ W wr)
    (fun i _ => (intOf i + 1).toNat)
  case atStart => exact ⟨(m : Int) - 1, [], by omega, by omega, rfl, ⟨by simp, fun q h1 h2 => by omega⟩, h0, Below.refl _ _⟩
  case round =>
    obtain ⟨j, pre, hj1, hj2, rfl, hca, hJs, hnx⟩ := hrel
    have hc' := (hnx.cell (p := ⟨Bs, 0, none⟩) hBs).trans hc
    by_cases hlt : 0 ≤ j
    · obtain ⟨q, rfl⟩ := Int.eq_ofNat_of_zero_le hlt
      have hqm : q < m := by omega
      have hW' : Below w0.heap.size w0 wr := hW.trans (hnx.mono hn0)
      obtain ⟨b, off, A1, L1, C1, x, rfl, _, hls, hcat, hcell, wx, hi, e0, e1⟩ := (h.below hW' (Nat.le_refl _)).at hqm
      obtain ⟨x0, x1⟩ := bounds_i64 wx
      obtain ⟨el, hel⟩ := elt_of h.each (i := q) (by rw [hl.out]; exact hqm)
      obtain ⟨fn, tmps, assign, body, hy, hR⟩ := hY pre el wr hJs (by rw [hca.1]; omega)
      have hnext := Lib.hid (hca.next hqm hel)
      have hca' := Lib.hid hca
      have hd : encE el = #[.int .i64 (q : Int), .agg #[.int .i64 x.1, .slice A1 L1 C1]] := by
        unfold encE
        have q1 := el.h0
        have q2 := el.h1
        rw [hel] at q1 q2
        rw [e0] at q1
        rw [e1] at q2
        injection q1 with q1
        injection q2 with q2
        rw [hel, ← q1, ← q2]
      rw [hd] at hy
      have hel' := Lib.hid hel
      clear hd hca hls hi e0 e1 hel wx
      gi_wp2
      refine hR.mono ?_
      rintro e W3 (⟨rfl, hJ3, hk3⟩ | ⟨rfl, hJx3⟩)
      · gi_wp2
        go_roundw
        case rel => exact ⟨(q : Int) - 1, pre ++ [el], by omega, by omega, rfl, hnext.out, hJ3, hnx.trans hk3⟩
        case measure => simp [intOf] <;> omega
      · gi_wp2
        refine bodyPost_ret (results_none rfl _ _ _) rfl ?_
        exact ⟨⟨_, rfl⟩, .inr ⟨_, ⟨q, pre, el, rfl, hel'.out, hqm, hca'.out⟩, hJx3⟩⟩
    · obtain rfl : j = -1 := by omega
      gi_wp2
      go_end0
      exact ⟨⟨_, rfl⟩, .inl ⟨_, hca, hJs⟩⟩

theorem back_stops (n : Nat) (hn : 1 ≤ n) (Bs n₀ : Nat) (w0 w : World) (B : Option Addr) (m D : Nat) (ht : List Value) (wt : List (Int × List Int)) (h : WSlab w0 B m ht wt) (hn0 : w0.heap.size ≤ n₀) (hBs : Bs < n₀) (hn1 : n₀ ≤ w.heap.size) (hW : Below w0.heap.size w0 w) (hc : w.cell? ⟨Bs, 0, none⟩ = some (.slice B m D)) :
    SeqStopsK Fence.wide n Try.prog 98 #[.pointer (some ⟨Bs, 0, none⟩)] (encE (w0 := w0) (ht := ht) (wt := wt)) (Below n₀) (fun ys => Came m (-1) ys)
      (fun pre => ∃ (q : Nat) (pre' : List (Elt w0 ht wt)) (e : Elt w0 ht wt), pre = pre' ++ [e] ∧ e.i = q ∧ q < m ∧ Came m (q : Int) pre') m w := fun l J Jx W hb _ _ hY h0 =>
  back1_in n hn l Bs n₀ w0 B m D ht wt h hn0 hBs J Jx hY W (hW.trans (hb.mono (Nat.le_trans hn0 hn1))) ((hb.cell (p := ⟨Bs, 0, none⟩) (Nat.lt_of_lt_of_le hBs hn1)).trans hc) h0
set_option maxHeartbeats 1000000 in
theorem back_in (n : Nat) (B : Option Addr) (m D : Nat) (w : World) :
    CallsIn Fence.wide n Try.prog 63 #[.slice B m D] w fun e w' => e = .returned (.func (.func 98) #[] #[.pointer (some ⟨w.heap.size, 0, none⟩)]) ∧ w' = w.alloc (.cells #[.slice B m D] 23) := by
  refine callsIn_of_wp Try.func63 rfl trivial ?_ rfl
  simp only [Try.ntmps63, List.size_toArray, List.length_cons, List.length_nil, Nat.reduceAdd, Nat.reduceSub, Array.replicate_succ, Array.replicate_zero, List.push_toArray, List.append_toArray, List.nil_append, List.cons_append]
  gi_wp2
  go_ret
  exact ⟨rfl, rfl⟩

/-- What is behind the loop of Read where it ends early. -/
def Found (w0 W0 : World) (k : Int) (b4 b5 : Nat) {ht : List Value} {wt : List (Int × List Int)} (c : Code) (pre : List (Elt w0 ht wt)) (W : World) : Prop :=
  ∃ (pre' : List (Elt w0 ht wt)) (e : Elt w0 ht wt) (g : Nat), c = .ret ∧ pre = pre' ++ [e] ∧ (∀ x ∈ pre', x.at_ ≠ k) ∧ e.at_ = k ∧ W0.heap.size ≤ g ∧ W.heap[g]? = some (.cells (cells (pad e.dat)) 5 (0, 0)) ∧
    Boxed W b4 29 (.slice (some ⟨g, 0, none⟩) 128 128) ∧ Boxed W b5 26 (.int .i64 0) ∧ Below w0.heap.size w0 W
theorem found_own (w0 W0 : World) (k : Int) (b4 b5 : Nat) {ht : List Value} {wt : List (Int × List Int)} (c : Code) (hle : w0.heap.size ≤ W0.heap.size) : OwnFrom W0.heap.size (Found w0 W0 k b4 b5 (ht := ht) (wt := wt) c) := by
  intro s X Y row hs hg hrow
  obtain ⟨pre', e, g, h1, h2, h3, h4, h5, h6, h7, h8, h9⟩ := hs
  have ne : ∀ (b : Nat) (cs : Array Value) (t : TypeId), X.heap[b]? = some (.cells cs t (0, 0)) → some b ≠ row := by
    intro b cs t hb e'
    obtain ⟨_, o, ho, hc⟩ := hrow b e'.symm
    rw [hb] at ho
    cases ho
    cases hc
  have lt : g < X.heap.size := (Array.getElem?_eq_some_iff.1 h6).1
  exact ⟨pre', e, g, h1, h2, h3, h4, h5, (hg.block g lt (ne g _ _ h6)).trans h6, h7.kept hg (ne b4 _ _ h7), h8.kept hg (ne b5 _ _ h8), h9.grown hg h9.size (fun r e' => Nat.le_trans hle (hrow r e').1)⟩
theorem keepsFrom_of_below {W W' : World} (B : Nat) (h : Below W.heap.size W W') : KeepsFrom B W W' := ⟨h.size, fun k _o _ hk _ => (h.block k (Array.getElem?_eq_some_iff.1 hk).1).trans hk⟩

theorem foldl_none {α : Type} (f : Int × α → Int) (k : Int) : ∀ (l : List (Int × α)) (b : α), (∀ x ∈ l, x.1 ≠ k) → l.foldl (fun acc x => if x.1 = k then x.2 else acc) b = b
  | [], _, _ => rfl
  | x :: l, b, h => by
    rw [List.foldl_cons, if_neg (h x (List.mem_cons_self ..))]
    exact foldl_none f k l b fun y hy => h y (List.mem_cons_of_mem _ hy)
theorem foldl_last {α : Type} (k : Int) (l1 l2 : List (Int × α)) (a b : α) (h : ∀ x ∈ l2, x.1 ≠ k) : (l1 ++ (k, a) :: l2).foldl (fun acc x => if x.1 = k then x.2 else acc) b = a := by
  rw [List.foldl_append, List.foldl_cons, if_pos rfl]
  exact foldl_none (fun x => x.1) k l2 a h
end Go.Proofs.Ytldgpkaecfgagaa
