/- Bytes, rows and devices in memory of the call's own: how they read, and what keeps them. -/
import Derived.Test.YtldgpkaecfgagaaDevMath
import Derived.Test.YtldgpkaecfgagaaBlk
import Derived.Deep.Heap
namespace Go.Proofs.Ytldgpkaecfgagaa
open Go.RowKit Go.WideShapes Go.ChangeShapes PolyM PackM FoldM DevM

theorem hdr_info : (Try.prog.info? 29).map (fun i => (i.zero, i.size, i.bytes)) = some (some (.slice none 0 0), 1, 24) := by kernel_rfl
theorem byte_info : (Try.prog.info? 5).map (fun i => (i.zero, i.size, i.bytes)) = some (some (.int .u8 0), 1, 1) := by kernel_rfl
theorem write_info : (Try.prog.info? 88).map (fun i => (i.zero, i.size, i.bytes)) = some (some (.agg #[.int .i64 0, .slice none 0 0]), 2, 32) := by kernel_rfl

theorem own_lt {w : World} {base : Nat} {e : TypeId} {size : Nat} {v : Value} {n : Nat} {xs : List Value} (h : w.ownsRow base e size v n xs) {k : Nat} (hk : v.ownBlock = some k) : k < w.heap.size ∧ base ≤ k := by
  obtain ⟨_, ⟨rfl, rfl⟩ | ⟨g, cap, cur, rfl, hb, hh, _⟩⟩ := h
  · simp [Value.ownBlock] at hk
  · simp only [Value.ownBlock, Option.some.injEq] at hk
    subst hk
    refine ⟨?_, hb⟩
    rcases Nat.lt_or_ge g w.heap.size with q | q
    · exact q
    · rw [Array.getElem?_eq_none q] at hh; cases hh
theorem own_below {w w' : World} {base : Nat} {e : TypeId} {size : Nat} {v : Value} {n : Nat} {xs : List Value} (h : w.ownsRow base e size v n xs) (hb : Below w.heap.size w w') : w'.ownsRow base e size v n xs := by
  have hk := fun k => own_lt (k := k) h
  obtain ⟨h1, h2 | ⟨g, cap, cur, rfl, q1, q2, q3⟩⟩ := h
  · exact ⟨h1, .inl h2⟩
  · exact ⟨h1, .inr ⟨g, cap, cur, rfl, q1, by rw [hb.block _ (hk g rfl).1]; exact q2, q3⟩⟩
theorem own_mono {w : World} {B K : Nat} {e : TypeId} {size : Nat} {v : Value} {n : Nat} {xs : List Value} (h : w.ownsRow B e size v n xs) (hK : K ≤ B) : w.ownsRow K e size v n xs := by
  obtain ⟨h1, h2 | ⟨g, cap, cur, rfl, q1, q2, q3⟩⟩ := h
  · exact ⟨h1, .inl h2⟩
  · exact ⟨h1, .inr ⟨g, cap, cur, rfl, Nat.le_trans hK q1, q2, q3⟩⟩
/-- A store into a row of the call's own. -/
theorem own_set {w : World} {base n C g k size : Nat} {e : TypeId} {hs : List Value} (own : w.ownsRow base e size (.slice (some ⟨g, 0, none⟩) n C) n hs) (u : Value) :
    (w.setCell ⟨g, k, none⟩ u).ownsRow base e size (.slice (some ⟨g, 0, none⟩) n C) n (hs.set k u) := by
  obtain ⟨h1, ⟨h2, _⟩ | ⟨g', cap, cur, e1, hb, hh, hnc, hm, hsz, ht⟩⟩ := own
  · cases h2
  · cases e1
    refine ⟨by rw [List.length_set]; exact h1, .inr ⟨g, C, cur.setIfInBounds k u, rfl, hb, heap_setCell_same _ _ _ _ _ _ hh, hnc, hm, by rw [Array.size_setIfInBounds]; exact hsz, ?_⟩⟩
    rw [Array.toList_setIfInBounds, List.take_set, ht]
theorem own_other {w : World} {base n size : Nat} {e : TypeId} {v : Value} {hs : List Value} (own : w.ownsRow base e size v n hs) {p : Addr} (hp : v.ownBlock ≠ some p.block) (u : Value) :
    (w.setCell p u).ownsRow base e size v n hs := by
  obtain ⟨h1, ⟨h2, h3⟩ | ⟨g', cap, cur, rfl, hb, hh, q⟩⟩ := own
  · exact ⟨h1, .inl ⟨h2, h3⟩⟩
  · have hne : g' ≠ p.block := by intro e; apply hp; rw [← e]; rfl
    exact ⟨h1, .inr ⟨g', cap, cur, rfl, hb, by rw [Below.heap_setCell _ _ _ _ hne]; exact hh, q⟩⟩
theorem own_cell {w : World} {base n C g k size : Nat} {e : TypeId} {hs : List Value} {u : Value} (own : w.ownsRow base e size (.slice (some ⟨g, 0, none⟩) n C) n hs) (hk : hs[k]? = some u) :
    w.cell? ⟨g, k, none⟩ = some u ∧ w.frozen? ⟨g, k, none⟩ = false := by
  obtain ⟨h1, ⟨h2, _⟩ | ⟨g', cap, cur, e1, hb, hh, hnc, hm, hsz, ht⟩⟩ := own
  · cases h2
  · cases e1
    refine ⟨?_, frozen_of_row _ _ _ _ _ hh⟩
    rw [cell_of_row _ _ _ _ _ _ hh, ← Array.getElem?_toList]
    rw [← ht, List.getElem?_take] at hk
    split at hk
    · exact hk
    · cases hk
/-- A row that is not empty begins at the head of a block. -/
theorem own_head {w : World} {base n size : Nat} {e : TypeId} {v : Value} {hs : List Value} (own : w.ownsRow base e size v n hs) (h0 : 0 < n) : ∃ g C, v = .slice (some ⟨g, 0, none⟩) n C ∧ base ≤ g ∧ g < w.heap.size := by
  have hk := fun k => own_lt (k := k) own
  obtain ⟨h1, ⟨h2, h3⟩ | ⟨g, cap, cur, rfl, hb, hh, q⟩⟩ := own
  · omega
  · exact ⟨g, cap, rfl, hb, (hk g rfl).1⟩
/-- Rows of unlike elements lie in unlike blocks. -/
theorem own_apart {w : World} {b1 b2 n1 n2 s1 s2 : Nat} {e1 e2 : TypeId} {v1 v2 : Value} {x1 x2 : List Value} (o1 : w.ownsRow b1 e1 s1 v1 n1 x1) (o2 : w.ownsRow b2 e2 s2 v2 n2 x2) (he : e1 ≠ e2) {g : Nat} (h1 : v1.ownBlock = some g) : v2.ownBlock ≠ some g := by
  intro h2
  obtain ⟨_, ⟨rfl, _⟩ | ⟨g1, cap1, cur1, rfl, _, hh1, _⟩⟩ := o1
  · simp [Value.ownBlock] at h1
  · obtain ⟨_, ⟨rfl, _⟩ | ⟨g2, cap2, cur2, rfl, _, hh2, _⟩⟩ := o2
    · simp [Value.ownBlock] at h2
    · simp only [Value.ownBlock, Option.some.injEq] at h1 h2
      subst h1; subst h2
      rw [hh1] at hh2
      injection hh2 with hh2
      injection hh2 with _ q _
      exact he q

/-- Bytes are kept by a store to a cell that holds none. -/
theorem Ints.setOther {w : World} {A : Option Addr} {L : Nat} {zs : List Int} {p : Addr} {u v : Value} (h : Ints .u8 w A L zs) (hp : w.cell? p = some v) (hv : ∀ z, v ≠ .int .u8 z) : Ints .u8 (w.setCell p u) A L zs := by
  refine ⟨h.len, h.max, h.wf, h.row.imp id ?_⟩
  rintro ⟨b, off, e, hlt, hc⟩
  refine ⟨b, off, e, by simpa using hlt, fun i hi => ?_⟩
  rw [World.cell?_setCell_other, hc i hi]
  intro q
  rw [q, hc i hi] at hp
  injection hp with hp
  exact hv _ hp.symm
theorem Hdrs.setOther {w : World} {hs : List Value} {ls : List (List Int)} {p : Addr} {u v : Value} (h : Hdrs w hs ls) (hp : w.cell? p = some v) (hv : ∀ z, v ≠ .int .u8 z) : Hdrs (w.setCell p u) hs ls := by
  refine ⟨h.1, fun i v' hv' => ?_⟩
  obtain ⟨A, L, C, zs, e1, e2, e3⟩ := h.2 i v' hv'
  exact ⟨A, L, C, zs, e1, e2, e3.setOther hp hv⟩
theorem Waits.setOther {w : World} {hs : List Value} {ls : List (Int × List Int)} {p : Addr} {u v : Value} (h : Waits w hs ls) (hp : w.cell? p = some v) (hv : ∀ z, v ≠ .int .u8 z) : Waits (w.setCell p u) hs ls := by
  refine ⟨h.1, fun i x hx => ?_⟩
  obtain ⟨h1, A, L, C, e1, e2, e3⟩ := h.2 i x hx
  exact ⟨h1, A, L, C, e1, e2, e3.setOther hp hv⟩

/-- What these headers lead to stands from K on, in blocks of bytes. -/
def High (K : Nat) (w : World) (vs : List Value) : Prop := ∀ v ∈ vs, ∀ (x : Addr) (L C : Nat), v = .slice (some x) L C → 0 < L → K ≤ x.block ∧ ∃ cs, w.heap[x.block]? = some (.cells cs 5 (0, 0))
theorem heap_lt {w : World} {b : Nat} {o : Obj} (h : w.heap[b]? = some o) : b < w.heap.size := (Array.getElem?_eq_some_iff.1 h).1
theorem High.nil (K : Nat) (w : World) : High K w [] := fun _v h => absurd h List.not_mem_nil
theorem High.below {K : Nat} {w w' : World} {vs : List Value} (h : High K w vs) (hb : Below w.heap.size w w') : High K w' vs := by
  intro v hv x L C e h0
  obtain ⟨q1, cs, q2⟩ := h v hv x L C e h0
  exact ⟨q1, cs, by rw [hb.block _ (heap_lt q2)]; exact q2⟩
theorem High.setCell {K : Nat} {w : World} {vs : List Value} (h : High K w vs) (p : Addr) (u : Value) : High K (w.setCell p u) vs := by
  intro v hv x L C e h0
  obtain ⟨q1, cs, q2⟩ := h v hv x L C e h0
  refine ⟨q1, ?_⟩
  by_cases q : x.block = p.block
  · rw [q] at q2 ⊢
    simp only [World.setCell, Array.getElem?_modify, if_true, q2, Option.map_some]
    exact ⟨_, rfl⟩
  · exact ⟨cs, by rw [Below.heap_setCell _ _ _ _ q]; exact q2⟩
theorem High.grown {K : Nat} {w w' : World} {vs : List Value} {r : Option Nat} (h : High K w vs) (hg : w.grownBy w' r) (hr : ∀ (b : Nat) (cs : Array Value), w.heap[b]? = some (.cells cs 5 (0, 0)) → some b ≠ r) : High K w' vs := by
  intro v hv x L C e h0
  obtain ⟨q1, cs, q2⟩ := h v hv x L C e h0
  exact ⟨q1, cs, by rw [hg.block _ (heap_lt q2) (hr _ _ q2)]; exact q2⟩
theorem High.off {K : Nat} {w : World} {vs : List Value} (h : High K w vs) {r : Option Nat} (hr : ∀ (b : Nat) (cs : Array Value), w.heap[b]? = some (.cells cs 5 (0, 0)) → some b ≠ r) : ∀ v ∈ vs, ∀ ad L C, v = Value.slice (some ad) L C → 0 < L → some ad.block ≠ r := by
  intro v hv ad L C e h0
  obtain ⟨_, cs, q2⟩ := h v hv ad L C e h0
  exact hr _ _ q2
theorem High.append {K : Nat} {w : World} {vs us : List Value} (h : High K w vs) (g : High K w us) : High K w (vs ++ us) := by
  intro v hv
  rcases List.mem_append.1 hv with q | q
  · exact h v q
  · exact g v q
theorem High.set {K : Nat} {w : World} {vs : List Value} (h : High K w vs) {u : Value} (g : High K w [u]) (k : Nat) : High K w (vs.set k u) := by
  intro v hv
  rcases List.mem_or_eq_of_mem_set hv with q | q
  · exact h v q
  · exact g v (by rw [q]; exact List.mem_singleton.2 rfl)
theorem High.mono {K B : Nat} {w : World} {vs : List Value} (h : High B w vs) (hK : K ≤ B) : High K w vs := fun v hv x L C e h0 => ⟨Nat.le_trans hK (h v hv x L C e h0).1, (h v hv x L C e h0).2⟩
theorem High.sub {K : Nat} {w : World} {vs us : List Value} (h : High K w vs) (g : ∀ u ∈ us, u ∈ vs) : High K w us := fun v hv => h v (g v hv)
theorem High.scalar {K : Nat} {w : World} (k : IntKind) (z : Int) : High K w [.int k z] := by
  intro v hv x L C e _
  rw [List.mem_singleton.1 hv] at e
  cases e

/-- A value that reads as these bytes, in memory of the call's own. -/
def Fresh (K : Nat) (w : World) (v : Value) (zs : List Int) : Prop := ∃ (A : Option Addr) (L C : Nat), v = .slice A L C ∧ Ints .u8 w A L zs ∧ High K w [v]
theorem Hdrs.grownH {w w' : World} {hs : List Value} {ls : List (List Int)} {r : Option Nat} (h : Hdrs w hs ls) (hg : w.grownBy w' r) (hx : ∀ v ∈ hs, ∀ ad L C, v = Value.slice (some ad) L C → 0 < L → some ad.block ≠ r) : Hdrs w' hs ls := by
  refine ⟨h.1, fun i v hv => ?_⟩
  obtain ⟨A, L, C, zs, e1, e2, e3⟩ := h.2 i v hv
  exact ⟨A, L, C, zs, e1, e2, e3.grown hg fun ad e h0 => hx v (List.mem_of_getElem? hv) ad L C (by rw [e2, e]) h0⟩
theorem Waits.grownH {w w' : World} {hs : List Value} {ls : List (Int × List Int)} {r : Option Nat} (h : Waits w hs ls) (hg : w.grownBy w' r) (hx : ∀ v ∈ hs, ∀ ad L C, v = Value.slice (some ad) L C → 0 < L → some ad.block ≠ r) : Waits w' hs ls := by
  refine ⟨h.1, fun i x hx' => ?_⟩
  obtain ⟨h1, A, L, C, e1, e2, e3⟩ := h.2 i x hx'
  exact ⟨h1, A, L, C, e1, e2, e3.grown hg fun ad e h0 => hx _ (List.mem_of_getElem? e2) ad L C (by rw [e]) h0⟩
theorem Fresh.below {K : Nat} {w w' : World} {v : Value} {zs : List Int} (h : Fresh K w v zs) (hb : Below w.heap.size w w') : Fresh K w' v zs := by
  obtain ⟨A, L, C, e, h1, h2⟩ := h
  exact ⟨A, L, C, e, h1.below hb (Nat.le_refl _), h2.below hb⟩
theorem Fresh.mono {K B : Nat} {w : World} {v : Value} {zs : List Int} (h : Fresh B w v zs) (hK : K ≤ B) : Fresh K w v zs := by
  obtain ⟨A, L, C, e, h1, h2⟩ := h
  exact ⟨A, L, C, e, h1, h2.mono hK⟩
theorem Fresh.nil (K : Nat) (w : World) : Fresh K w (.slice none 0 0) [] := ⟨none, 0, 0, rfl, ⟨rfl, by omega, by simp, .inl rfl⟩, fun v hv x L C e h0 => by rw [List.mem_singleton.1 hv] at e; cases e⟩
theorem Fresh.ofCells {K g n : Nat} {w : World} {zs : List Int} {C : Nat} (h : w.heap[g]? = some (.cells (cells zs) 5 (0, 0))) (hn : zs.length = n) (hm : n ≤ 9223372036854775807) (hb : Bytes zs) (hK : K ≤ g) : Fresh K w (.slice (some ⟨g, 0, none⟩) n C) zs := by
  have hI := Ints.ofCells h hn hm hb
  refine ⟨_, _, _, rfl, hI, fun v hv x L C' e h0 => ?_⟩
  rw [List.mem_singleton.1 hv] at e
  injection e with e _ _
  injection e with e
  subst e
  exact ⟨hK, _, h⟩
/-- A row of bytes of the call's own. -/
theorem Fresh.ofOwn {K n : Nat} {w : World} {v : Value} {zs : List Int} (own : w.ownsRow K 5 1 v n (zs.map (Value.int .u8))) (hm : n ≤ 9223372036854775807) (hw : ∀ z ∈ zs, (Lit.int .u8 z).wf = true) : Fresh K w v zs := by
  have hk := fun k => own_lt (k := k) own
  have own' := own
  obtain ⟨A, C, rfl, _, ro, hA⟩ := own_form own
  refine ⟨A, n, C, rfl, Ints.ofRow (by simpa using ro) hm hw, fun v hv x L C' e h0 => ?_⟩
  rw [List.mem_singleton.1 hv] at e
  injection e with e1 e2 e3
  subst e1
  obtain ⟨_, ⟨h2, _⟩ | ⟨g, cap, cur, e4, hb, hh, _⟩⟩ := own'
  · cases h2
  · injection e4 with e4 _ _
    injection e4 with e4
    subst e4
    exact ⟨hb, _, hh⟩

/-- A device in memory of the call's own. -/
def DevN (K : Nat) (w : World) (v : Value) (d : Dev) : Prop :=
  ∃ (A : Option Addr) (n C : Nat) (hs : List Value) (B : Option Addr) (m D : Nat) (ht : List Value), v = .agg #[.slice A n C, .slice B m D, .bool d.dead] ∧
    w.ownsRow K 29 1 (.slice A n C) n hs ∧ w.ownsRow K 88 2 (.slice B m D) m ht ∧ Hdrs w hs d.blocks ∧ Waits w ht d.wait ∧ High K w hs ∧ High K w ht ∧ n ≤ 9223372036854775807 ∧ m ≤ 9223372036854775807
theorem DevN.devV {K : Nat} {w : World} {v : Value} {d : Dev} (h : DevN K w v d) : DevV w v d := by
  obtain ⟨A, n, C, hs, B, m, D, ht, e, o1, o2, h1, h2, _, _, m1, m2⟩ := h
  obtain ⟨A', C', e1, _, r1, _⟩ := own_form o1
  obtain ⟨B', D', e2, _, r2, _⟩ := own_form o2
  cases e1
  cases e2
  exact ⟨A, n, C, hs, B, m, D, ht, e, ⟨r1, m1, h1⟩, ⟨r2, m2, h2⟩⟩
theorem DevN.below {K : Nat} {w w' : World} {v : Value} {d : Dev} (h : DevN K w v d) (hb : Below w.heap.size w w') : DevN K w' v d := by
  obtain ⟨A, n, C, hs, B, m, D, ht, e, o1, o2, h1, h2, g1, g2, m1, m2⟩ := h
  exact ⟨A, n, C, hs, B, m, D, ht, e, own_below o1 hb, own_below o2 hb, h1.below hb (Nat.le_refl _), h2.below hb (Nat.le_refl _), g1.below hb, g2.below hb, m1, m2⟩
theorem DevN.mono {K B : Nat} {w : World} {v : Value} {d : Dev} (h : DevN B w v d) (hK : K ≤ B) : DevN K w v d := by
  obtain ⟨A, n, C, hs, B, m, D, ht, e, o1, o2, h1, h2, g1, g2, m1, m2⟩ := h
  exact ⟨A, n, C, hs, B, m, D, ht, e, own_mono o1 hK, own_mono o2 hK, h1, h2, g1.mono hK, g2.mono hK, m1, m2⟩
/-- No device: what stands beside an error. -/
def noDev : Value := .agg #[.slice none 0 0, .slice none 0 0, .bool false]
theorem noDev_is (K : Nat) (w : World) : DevN K w noDev ⟨[], [], false⟩ :=
  ⟨none, 0, 0, [], none, 0, 0, [], rfl, World.ownsRow_nil _ _ _ _, World.ownsRow_nil _ _ _ _, Hdrs.nil w, Waits.nil w, High.nil _ _, High.nil _ _, by omega, by omega⟩
theorem DevV.len {w : World} {v : Value} {d : Dev} (h : DevV w v d) : d.blocks.length ≤ 9223372036854775807 ∧ d.wait.length ≤ 9223372036854775807 := by
  obtain ⟨A, n, C, hs, B, m, D, ht, e, h1, h2⟩ := h
  exact ⟨by rw [h1.len]; exact h1.max, by rw [h2.len]; exact h2.max⟩

/-- A box that holds a device. -/
def BoxD (w : World) (b : Nat) (x y z : Value) : Prop := w.heap[b]? = some (.cells #[x, y, z] 25 (0, 0))
theorem BoxD.lt {w : World} {b : Nat} {x y z : Value} (h : BoxD w b x y z) : b < w.heap.size := by
  rcases Nat.lt_or_ge b w.heap.size with q | q
  · exact q
  · unfold BoxD at h
    rw [Array.getElem?_eq_none q] at h; cases h
theorem BoxD.below {w w' : World} {b : Nat} {x y z : Value} (h : BoxD w b x y z) (hb : Below w.heap.size w w') : BoxD w' b x y z := by
  have := h.lt
  unfold BoxD at *
  rw [hb.block _ this]; exact h
theorem BoxD.c0 {w : World} {b : Nat} {x y z : Value} (h : BoxD w b x y z) : w.cell? ⟨b, 0, none⟩ = some x := cell_of_row _ _ _ _ _ _ h
theorem BoxD.c1 {w : World} {b : Nat} {x y z : Value} (h : BoxD w b x y z) : w.cell? ⟨b, 1, none⟩ = some y := cell_of_row _ _ _ _ _ _ h
theorem BoxD.c2 {w : World} {b : Nat} {x y z : Value} (h : BoxD w b x y z) : w.cell? ⟨b, 2, none⟩ = some z := cell_of_row _ _ _ _ _ _ h
theorem BoxD.fr {w : World} {b o : Nat} {x y z : Value} (h : BoxD w b x y z) : w.frozen? ⟨b, o, none⟩ = false := frozen_of_row _ _ _ _ _ h
theorem BoxD.new (w : World) (x y z : Value) : BoxD (w.alloc (.cells #[x, y, z] 25)) w.heap.size x y z := heap_alloc_new _ _
theorem BoxD.alloc {w : World} {b : Nat} {x y z : Value} (h : BoxD w b x y z) (o : Obj) : BoxD (w.alloc o) b x y z := h.below ((Below.refl _ _).alloc (Nat.le_refl _) _)
theorem BoxD.s0 {w : World} {b : Nat} {x y z : Value} (h : BoxD w b x y z) (u : Value) : BoxD (w.setCell ⟨b, 0, none⟩ u) b u y z := heap_setCell_same _ _ _ _ _ _ h
theorem BoxD.s1 {w : World} {b : Nat} {x y z : Value} (h : BoxD w b x y z) (u : Value) : BoxD (w.setCell ⟨b, 1, none⟩ u) b x u z := heap_setCell_same _ _ _ _ _ _ h
theorem BoxD.s2 {w : World} {b : Nat} {x y z : Value} (h : BoxD w b x y z) (u : Value) : BoxD (w.setCell ⟨b, 2, none⟩ u) b x y u := heap_setCell_same _ _ _ _ _ _ h
theorem BoxD.other {w : World} {b : Nat} {x y z : Value} (h : BoxD w b x y z) {p : Addr} (hp : b ≠ p.block) (u : Value) : BoxD (w.setCell p u) b x y z := by
  unfold BoxD at *
  rw [Below.heap_setCell _ _ _ _ hp]; exact h
/-- No row lies in a box. -/
theorem own_box {w : World} {base n size b : Nat} {e : TypeId} {v : Value} {hs : List Value} {x y z : Value} (own : w.ownsRow base e size v n hs) (h : BoxD w b x y z) (he : e ≠ 25) : v.ownBlock ≠ some b := by
  intro q
  obtain ⟨_, ⟨rfl, _⟩ | ⟨g1, cap1, cur1, rfl, _, hh1, _⟩⟩ := own
  · simp [Value.ownBlock] at q
  · simp only [Value.ownBlock, Option.some.injEq] at q
    subst q
    unfold BoxD at h
    rw [hh1] at h
    injection h with h
    injection h with _ q _
    exact he q
/-- A store into a box that holds a device turns no other one. -/
theorem DevN.setBox {K b o : Nat} {w : World} {v : Value} {d : Dev} {x y z c u : Value} (h : DevN K w v d) (hb : BoxD w b x y z) (hc : w.cell? ⟨b, o, none⟩ = some c) (hn : ∀ q, c ≠ .int .u8 q) : DevN K (w.setCell ⟨b, o, none⟩ u) v d := by
  obtain ⟨A, n, C, hs, B, m, D, ht, e, o1, o2, h1, h2, g1, g2, m1, m2⟩ := h
  exact ⟨A, n, C, hs, B, m, D, ht, e, own_other o1 (own_box o1 hb (by decide)) _, own_other o2 (own_box o2 hb (by decide)) _, h1.setOther hc hn, h2.setOther hc hn, g1.setCell _ _, g2.setCell _ _, m1, m2⟩
/-- The three stores of a device into a box. -/
theorem DevN.setBox3 {K b : Nat} {w : World} {v : Value} {d : Dev} {A B : Option Addr} {n C m D : Nat} {dd : Bool} (h : DevN K w v d) (hb : BoxD w b (.slice A n C) (.slice B m D) (.bool dd)) (x y z : Value) :
    DevN K (((w.setCell ⟨b, 0, none⟩ x).setCell ⟨b, 1, none⟩ y).setCell ⟨b, 2, none⟩ z) v d ∧ BoxD (((w.setCell ⟨b, 0, none⟩ x).setCell ⟨b, 1, none⟩ y).setCell ⟨b, 2, none⟩ z) b x y z := by
  have b1 := hb.s0 x
  have b2 := b1.s1 y
  exact ⟨((h.setBox (u := x) hb hb.c0 (by intro q; simp)).setBox (u := y) b1 b1.c1 (by intro q; simp)).setBox (u := z) b2 b2.c2 (by intro q; simp), b2.s2 z⟩
/-- A block of another kind of elements is not this row's. -/
theorem own_kind {w : World} {base n size b : Nat} {e t : TypeId} {v : Value} {hs : List Value} {cs : Array Value} (own : w.ownsRow base e size v n hs) (h : w.heap[b]? = some (.cells cs t (0, 0))) (he : e ≠ t) : some b ≠ v.ownBlock := by
  intro q
  obtain ⟨_, ⟨rfl, _⟩ | ⟨g1, cap1, cur1, rfl, _, hh1, _⟩⟩ := own
  · simp [Value.ownBlock] at q
  · simp only [Value.ownBlock, Option.some.injEq] at q
    subst q
    rw [hh1] at h
    injection h with h
    injection h with _ q _
    exact he q
theorem own_grown {w w' : World} {base n size : Nat} {e : TypeId} {v : Value} {hs : List Value} {r : Option Nat} (own : w.ownsRow base e size v n hs) (hg : w.grownBy w' r) (hr : ∀ k, v.ownBlock = some k → some k ≠ r) : w'.ownsRow base e size v n hs := by
  have hk := fun k => own_lt (k := k) own
  obtain ⟨h1, h2 | ⟨g, cap, cur, rfl, q1, q2, q3⟩⟩ := own
  · exact ⟨h1, .inl h2⟩
  · exact ⟨h1, .inr ⟨g, cap, cur, rfl, q1, by rw [hg.block _ (hk g rfl).1 (hr g rfl)]; exact q2, q3⟩⟩
theorem BoxD.grown {w w' : World} {b : Nat} {x y z : Value} {r : Option Nat} (h : BoxD w b x y z) (hg : w.grownBy w' r) (hr : some b ≠ r) : BoxD w' b x y z := by
  have := h.lt
  unfold BoxD at *
  rw [hg.block _ this hr]; exact h
end Go.Proofs.Ytldgpkaecfgagaa
