/- What is written over: a device in memory of the call's own, its kinds of cells kept. -/
import Derived.Test.YtldgpkaecfgagaaRefDE
namespace Go.Proofs.Ytldgpkaecfgagaa
open Go.RowKit PolyM PackM FoldM DevM

/-- Bytes stay bytes, as many, behind a store of a byte. -/
theorem Ints.stored {w : World} {A : Option Addr} {L : Nat} {zs : List Int} {p : Addr} {z : Int} (h : Ints .u8 w A L zs) (hz : (Lit.int .u8 z).wf = true) : ∃ zs', Ints .u8 (w.setCell p (.int .u8 z)) A L zs' := by
  rcases h.row with h0 | ⟨b, off, rfl, hlt, hc⟩
  · exact ⟨zs, h.len, h.max, h.wf, .inl h0⟩
  · classical
    refine ⟨(List.range L).map fun i => if p = ⟨b, off + i, none⟩ then z else zs.getD i 0, by simp, h.max, fun y hy => ?_, .inr ⟨b, off, rfl, by simpa using hlt, fun i hi => ?_⟩⟩
    · obtain ⟨i, hi, rfl⟩ := List.mem_map.1 hy
      rw [List.mem_range] at hi
      try dsimp only
      split
      · exact hz
      · exact h.wf _ (getD_mem (by have := h.len; omega))
    · rw [List.getD_eq_getElem?_getD, List.getElem?_map, List.getElem?_range hi]
      show _ = some (Value.int .u8 (if p = ⟨b, off + i, none⟩ then z else zs.getD i 0))
      by_cases e : p = ⟨b, off + i, none⟩
      · rw [if_pos e, ← e]
        exact World.cell?_setCell_same _ _ _ (u := .int .u8 (zs.getD i 0)) (by rw [e]; exact hc i hi)
      · rw [if_neg e, World.cell?_setCell_other _ _ _ _ e]
        exact hc i hi

/-- What these headers lead to stands ahead of M. -/
def Cap (M : Nat) (vs : List Value) : Prop := ∀ v ∈ vs, ∀ (x : Addr) (L C : Nat), v = .slice (some x) L C → 0 < L → x.block < M
theorem Cap.set {M : Nat} {vs : List Value} (h : Cap M vs) (k : Nat) (q : IntKind) (z : Int) : Cap M (vs.set k (.int q z)) := by
  intro v hv x L C e h0
  rcases List.mem_or_eq_of_mem_set hv with p | p
  · exact h v p x L C e h0
  · rw [p] at e; cases e
theorem cap_one {w : World} {A : Option Addr} {L C : Nat} {zs : List Int} (h : Ints .u8 w A L zs) : Cap w.heap.size [.slice A L C] := by
  intro v hv x L' C' e h0
  rw [List.mem_singleton.1 hv] at e
  cases e
  rcases h.row with q | ⟨b, off, e, hlt, _⟩
  · omega
  · injection e with e
    rw [e]; exact hlt

/-- A device's memory, of the call's own, whatever its bytes: its rows, and headers each of which reads as bytes. -/
structure Sp (K M : Nat) (w : World) (A : Option Addr) (n C : Nat) (hs : List Value) (B : Option Addr) (m D : Nat) (ht : List Value) : Prop where
  o1 : w.ownsRow K 29 1 (.slice A n C) n hs
  o2 : w.ownsRow K 88 2 (.slice B m D) m ht
  e1 : ∀ i, i < n → ∃ (A' : Option Addr) (L C' : Nat) (zs : List Int), hs[i]? = some (.slice A' L C') ∧ Ints .u8 w A' L zs
  e2 : ∀ i, i < m → ∃ (k : Int) (A' : Option Addr) (L C' : Nat) (zs : List Int), ht[i * 2]? = some (.int .i64 k) ∧ ht[i * 2 + 1]? = some (.slice A' L C') ∧ Ints .u8 w A' L zs
  g1 : High K w hs
  g2 : High K w ht
  u1 : Cap M hs
  u2 : Cap M ht
  u3 : ∀ k, (Value.slice A n C).ownBlock = some k → k < M
  u4 : ∀ k, (Value.slice B m D).ownBlock = some k → k < M
theorem DevN.toSp {K : Nat} {w : World} {v : Value} {d : Dev} (h : DevN K w v d) : ∃ A n C hs B m D ht, v = .agg #[.slice A n C, .slice B m D, .bool d.dead] ∧ Sp K w.heap.size w A n C hs B m D ht ∧ n ≤ 9223372036854775807 ∧ m ≤ 9223372036854775807 := by
  obtain ⟨A, n, C, hs, B, m, D, ht, e, o1, o2, h1, h2, g1, g2, m1, m2⟩ := h
  refine ⟨A, n, C, hs, B, m, D, ht, e, ⟨o1, o2, fun i hi => ?_, fun i hi => ?_, g1, g2, ?_, ?_, fun k hk => (own_lt o1 hk).1, fun k hk => (own_lt o2 hk).1⟩, m1, m2⟩
  · have hl := o1.1
    obtain ⟨A', L, C', zs, q1, q2, q3⟩ := h1.2 i _ (List.getElem?_eq_getElem (by omega))
    exact ⟨A', L, C', zs, by rw [List.getElem?_eq_getElem (by omega), q2], q3⟩
  · have hl := o2.1
    have hl2 := h2.1
    obtain ⟨q0, A', L, C', q1, q2, q3⟩ := h2.2 i _ (List.getElem?_eq_getElem (by omega))
    exact ⟨_, A', L, C', _, q1, q2, q3⟩
  · intro v hv x L C' e h0
    obtain ⟨i, hi, rfl⟩ := List.mem_iff_getElem.1 hv
    obtain ⟨A', L', C2, zs, q1, q2, q3⟩ := h1.2 i _ (List.getElem?_eq_getElem hi)
    rw [q2] at e
    cases e
    exact cap_one (C := C') q3 _ (List.mem_singleton.2 rfl) x L C' rfl h0
  · intro v hv x L C' e h0
    obtain ⟨i, hi, rfl⟩ := List.mem_iff_getElem.1 hv
    have hl := o2.1
    have hl2 := h2.1
    obtain ⟨q0, A', L', C2, q1, q2, q3⟩ := h2.2 (i / 2) _ (List.getElem?_eq_getElem (by omega))
    rcases Nat.mod_two_eq_zero_or_one i with p | p
    · rw [show i / 2 * 2 = i by omega, List.getElem?_eq_getElem hi] at q1
      injection q1 with q1
      rw [q1] at e; cases e
    · rw [show i / 2 * 2 + 1 = i by omega, List.getElem?_eq_getElem hi] at q2
      injection q2 with q2
      rw [q2] at e
      cases e
      exact cap_one (C := C') q3 _ (List.mem_singleton.2 rfl) x L C' rfl h0
theorem Sp.below {K M : Nat} {w w' : World} {A : Option Addr} {n C : Nat} {hs : List Value} {B : Option Addr} {m D : Nat} {ht : List Value} (h : Sp K M w A n C hs B m D ht) (hb : Below w.heap.size w w') : Sp K M w' A n C hs B m D ht := by
  refine ⟨own_below h.o1 hb, own_below h.o2 hb, fun i hi => ?_, fun i hi => ?_, h.g1.below hb, h.g2.below hb, h.u1, h.u2, h.u3, h.u4⟩
  · obtain ⟨A', L, C', zs, q1, q2⟩ := h.e1 i hi
    exact ⟨A', L, C', zs, q1, q2.below hb (Nat.le_refl _)⟩
  · obtain ⟨k, A', L, C', zs, q1, q2, q3⟩ := h.e2 i hi
    exact ⟨k, A', L, C', zs, q1, q2, q3.below hb (Nat.le_refl _)⟩
/-- A byte is written over. -/
theorem Sp.byte {K M : Nat} {w : World} {A : Option Addr} {n C : Nat} {hs : List Value} {B : Option Addr} {m D : Nat} {ht : List Value} (h : Sp K M w A n C hs B m D ht) {b o : Nat} {cs : Array Value} (hk : w.heap[b]? = some (.cells cs 5 (0, 0))) {z : Int} (hz : (Lit.int .u8 z).wf = true) : Sp K M (w.setCell ⟨b, o, none⟩ (.int .u8 z)) A n C hs B m D ht := by
  refine ⟨own_other h.o1 (fun q => own_kind h.o1 hk (by decide) q.symm) _, own_other h.o2 (fun q => own_kind h.o2 hk (by decide) q.symm) _, fun i hi => ?_, fun i hi => ?_, h.g1.setCell _ _, h.g2.setCell _ _, h.u1, h.u2, h.u3, h.u4⟩
  · obtain ⟨A', L, C', zs, q1, q2⟩ := h.e1 i hi
    obtain ⟨zs', q3⟩ := q2.stored (p := ⟨b, o, none⟩) hz
    exact ⟨A', L, C', zs', q1, q3⟩
  · obtain ⟨k, A', L, C', zs, q1, q2, q3⟩ := h.e2 i hi
    obtain ⟨zs', q4⟩ := q3.stored (p := ⟨b, o, none⟩) hz
    exact ⟨k, A', L, C', zs', q1, q2, q4⟩
theorem BoxD.kind {w : World} {b b' : Nat} {x y z : Value} {cs : Array Value} (h : BoxD w b x y z) (hk : w.heap[b']? = some (.cells cs 5 (0, 0))) : b ≠ b' := by
  intro e
  unfold BoxD at h
  rw [e, hk] at h
  injection h with h
  injection h with _ q _
  exact absurd q (by decide)
/-- A place is written over. -/
theorem Sp.place {K M : Nat} {w : World} {A : Option Addr} {n C : Nat} {hs : List Value} {g m D : Nat} {ht : List Value} (h : Sp K M w A n C hs (some ⟨g, 0, none⟩) m D ht) {k : Nat} (hk : k < m) (z : Int) : Sp K M (w.setCell ⟨g, k * 2, none⟩ (.int .i64 z)) A n C hs (some ⟨g, 0, none⟩) m D (ht.set (k * 2) (.int .i64 z)) := by
  obtain ⟨k0, A0, L0, C0, zs0, q1, q2, q3⟩ := h.e2 k hk
  have hc := (own_cell h.o2 q1).1
  refine ⟨own_other (p := ⟨g, k * 2, none⟩) h.o1 (own_apart h.o2 h.o1 (by decide) rfl) _, own_set h.o2 _, fun i hi => ?_, fun i hi => ?_, h.g1.setCell _ _, (h.g2.setCell _ _).set (High.scalar _ _) _, h.u1, h.u2.set _ _ _, h.u3, h.u4⟩
  · obtain ⟨A', L, C', zs, q1, q2⟩ := h.e1 i hi
    exact ⟨A', L, C', zs, q1, q2.setOther hc (by intro q; simp)⟩
  · obtain ⟨k1, A', L, C', zs, p1, p2, p3⟩ := h.e2 i hi
    by_cases e : i = k
    · subst e
      exact ⟨z, A', L, C', zs, by rw [List.getElem?_set, if_pos rfl, if_pos (List.getElem?_eq_some_iff.1 p1).1], by rw [List.getElem?_set, if_neg (by omega)]; exact p2, p3.setOther hc (by intro q; simp)⟩
    · exact ⟨k1, A', L, C', zs, by rw [List.getElem?_set, if_neg (by omega)]; exact p1, by rw [List.getElem?_set, if_neg (by omega)]; exact p2, p3.setOther hc (by intro q; simp)⟩
/-- A header's cell of the blocks, and its bytes. -/
theorem Sp.head {K M : Nat} {w : World} {A : Option Addr} {n C : Nat} {hs : List Value} {B : Option Addr} {m D : Nat} {ht : List Value} (h : Sp K M w A n C hs B m D ht) {i : Nat} (hi : i < n) :
    ∃ (g : Nat) (A' : Option Addr) (L C' : Nat), A = some ⟨g, 0, none⟩ ∧ hs[i]? = some (.slice A' L C') ∧ w.cell? ⟨g, i, none⟩ = some (.slice A' L C') ∧ L ≤ 9223372036854775807 := by
  obtain ⟨A', L, C', zs, q1, q2⟩ := h.e1 i hi
  obtain ⟨g, C1, e, _, _⟩ := own_head h.o1 (by omega)
  cases e
  exact ⟨g, A', L, C', rfl, q1, (own_cell h.o1 q1).1, q2.max⟩
theorem Sp.wait {K M : Nat} {w : World} {A : Option Addr} {n C : Nat} {hs : List Value} {B : Option Addr} {m D : Nat} {ht : List Value} (h : Sp K M w A n C hs B m D ht) {i : Nat} (hi : i < m) :
    ∃ (g : Nat) (k : Int) (A' : Option Addr) (L C' : Nat), B = some ⟨g, 0, none⟩ ∧ ht[i * 2 + 1]? = some (.slice A' L C') ∧ w.cell? ⟨g, i * 2, none⟩ = some (.int .i64 k) ∧ w.frozen? ⟨g, i * 2, none⟩ = false ∧ w.cell? ⟨g, i * 2 + 1, none⟩ = some (.slice A' L C') ∧ L ≤ 9223372036854775807 ∧ K ≤ g ∧ g < M := by
  obtain ⟨k, A', L, C', zs, q1, q2, q3⟩ := h.e2 i hi
  obtain ⟨g, C1, e, hg, hg2⟩ := own_head h.o2 (by omega)
  cases e
  exact ⟨g, k, A', L, C', rfl, q2, (own_cell h.o2 q1).1, (own_cell h.o2 q1).2, (own_cell h.o2 q2).1, q3.max, hg, h.u4 g rfl⟩
/-- A byte's cell behind a header. -/
theorem byte_at {K M : Nat} {w : World} {A' : Option Addr} {L C' : Nat} {zs : List Int} {vs : List Value} (hI : Ints .u8 w A' L zs) (hg : High K w vs) (hu : Cap M vs) (hv : Value.slice A' L C' ∈ vs) {k : Nat} (hk : k < L) :
    ∃ (b off : Nat) (z : Int) (cs : Array Value), A' = some ⟨b, off, none⟩ ∧ w.cell? ⟨b, off + k, none⟩ = some (.int .u8 z) ∧ w.frozen? ⟨b, off + k, none⟩ = false ∧ (0 ≤ z ∧ z ≤ 255) ∧ w.heap[b]? = some (.cells cs 5 (0, 0)) ∧ K ≤ b ∧ b < M := by
  rcases hI.row with h0 | ⟨b, off, rfl, hlt, hc⟩
  · omega
  · obtain ⟨q1, cs, q2⟩ := hg _ hv _ _ _ rfl (by omega)
    exact ⟨b, off, _, cs, rfl, hc k hk, frozen_of_row _ _ _ _ _ q2, bytes_of hI _ (getD_mem (zs := zs) (i := k) (by have := hI.len; omega)), q2, q1, hu _ hv _ _ _ rfl (by omega)⟩
theorem Sp.byteB {K M : Nat} {w : World} {A : Option Addr} {n C : Nat} {hs : List Value} {B : Option Addr} {m D : Nat} {ht : List Value} (h : Sp K M w A n C hs B m D ht) {i : Nat} {A' : Option Addr} {L C' : Nat} (hi : hs[i]? = some (.slice A' L C')) {k : Nat} (hk : k < L) :
    ∃ (b off : Nat) (z : Int) (cs : Array Value), A' = some ⟨b, off, none⟩ ∧ w.cell? ⟨b, off + k, none⟩ = some (.int .u8 z) ∧ w.frozen? ⟨b, off + k, none⟩ = false ∧ (0 ≤ z ∧ z ≤ 255) ∧ w.heap[b]? = some (.cells cs 5 (0, 0)) ∧ K ≤ b ∧ b < M := by
  have hl := h.o1.1
  obtain ⟨A1, L1, C1, zs, q1, q2⟩ := h.e1 i (by have := (List.getElem?_eq_some_iff.1 hi).1; omega)
  rw [hi] at q1
  cases q1
  exact byte_at q2 h.g1 h.u1 (List.mem_of_getElem? hi) hk
theorem Sp.byteW {K M : Nat} {w : World} {A : Option Addr} {n C : Nat} {hs : List Value} {B : Option Addr} {m D : Nat} {ht : List Value} (h : Sp K M w A n C hs B m D ht) {i : Nat} {A' : Option Addr} {L C' : Nat} (hm : i < m) (hi : ht[i * 2 + 1]? = some (.slice A' L C')) {k : Nat} (hk : k < L) :
    ∃ (b off : Nat) (z : Int) (cs : Array Value), A' = some ⟨b, off, none⟩ ∧ w.cell? ⟨b, off + k, none⟩ = some (.int .u8 z) ∧ w.frozen? ⟨b, off + k, none⟩ = false ∧ (0 ≤ z ∧ z ≤ 255) ∧ w.heap[b]? = some (.cells cs 5 (0, 0)) ∧ K ≤ b ∧ b < M := by
  obtain ⟨k1, A1, L1, C1, zs, q0, q1, q2⟩ := h.e2 i hm
  rw [hi] at q1
  cases q1
  exact byte_at q2 h.g2 h.u2 (List.mem_of_getElem? hi) hk
theorem u8_wf {z : Int} (h0 : 0 ≤ z) (h1 : z < 256) : (Lit.int .u8 z).wf = true := by
  exact WalkArith.wf_u8 ⟨h0, by omega⟩
/-- What holds while a device is written over. -/
def SpAt (K M : Nat) (w : World) (A : Option Addr) (n C : Nat) (hs : List Value) (B : Option Addr) (m D : Nat) (ht : List Value) (dd : Bool) (wr : World) : Prop :=
  Sp K M wr A n C hs B m D ht ∧ BoxD wr w.heap.size (.slice A n C) (.slice B m D) (.bool dd) ∧ Below K w wr ∧ ∀ b, M ≤ b → b < w.heap.size → wr.heap[b]? = w.heap[b]?
theorem SpAt.byte {K M : Nat} {w : World} {A : Option Addr} {n C : Nat} {hs : List Value} {B : Option Addr} {m D : Nat} {ht : List Value} {dd : Bool} {wr : World} (h : SpAt K M w A n C hs B m D ht dd wr) {b o : Nat} {cs : Array Value} (hk : wr.heap[b]? = some (.cells cs 5 (0, 0))) (hb : K ≤ b ∧ b < M) {z : Int} (h0 : 0 ≤ z) (h1 : z < 256) :
    SpAt K M w A n C hs B m D ht dd (wr.setCell ⟨b, o, none⟩ (.int .u8 z)) :=
  ⟨h.1.byte hk (u8_wf h0 h1), h.2.1.other (h.2.1.kind hk) _, h.2.2.1.setCell hb.1 _, fun q hq hq2 => by rw [Below.heap_setCell _ _ _ _ (show q ≠ b by omega)]; exact h.2.2.2 q hq hq2⟩
theorem SpAt.place {K M : Nat} {w : World} {A : Option Addr} {n C : Nat} {hs : List Value} {g m D : Nat} {ht : List Value} {dd : Bool} {wr : World} (h : SpAt K M w A n C hs (some ⟨g, 0, none⟩) m D ht dd wr) {k : Nat} (hk : k < m) (hg : K ≤ g ∧ g < M) (z : Int) :
    SpAt K M w A n C hs (some ⟨g, 0, none⟩) m D (ht.set (k * 2) (.int .i64 z)) dd (wr.setCell ⟨g, k * 2, none⟩ (.int .i64 z)) :=
  ⟨h.1.place hk z, h.2.1.other (fun e => own_box h.1.o2 h.2.1 (by decide) (by rw [e]; rfl)) _, h.2.2.1.setCell hg.1 _, fun q hq hq2 => by rw [Below.heap_setCell _ _ _ _ (show q ≠ g by omega)]; exact h.2.2.2 q hq hq2⟩
/-- A value that is a device in memory of the call's own, from K on and ahead of M. -/
def SpV (K M : Nat) (w : World) (v : Value) : Prop := ∃ A n C hs B m D ht dd, v = .agg #[.slice A n C, .slice B m D, .bool dd] ∧ Sp K M w A n C hs B m D ht ∧ n ≤ 9223372036854775807 ∧ m ≤ 9223372036854775807
theorem DevN.spV {K : Nat} {w : World} {v : Value} {d : Dev} (h : DevN K w v d) : SpV K w.heap.size w v := by
  obtain ⟨A, n, C, hs, B, m, D, ht, e, hS, m1, m2⟩ := h.toSp
  exact ⟨A, n, C, hs, B, m, D, ht, _, e, hS, m1, m2⟩
theorem SpV.below {K M : Nat} {w w' : World} {v : Value} (h : SpV K M w v) (hb : Below w.heap.size w w') : SpV K M w' v := by
  obtain ⟨A, n, C, hs, B, m, D, ht, dd, e, hS, m1, m2⟩ := h
  exact ⟨A, n, C, hs, B, m, D, ht, dd, e, hS.below hb, m1, m2⟩
/-- Nothing of it has turned. -/
theorem own_framed {w w' : World} {base n size M : Nat} {e : TypeId} {v : Value} {hs : List Value} (own : w.ownsRow base e size v n hs) (hu : ∀ k, v.ownBlock = some k → k < M) (hf : ∀ b, base ≤ b → b < M → w'.heap[b]? = w.heap[b]?) : w'.ownsRow base e size v n hs := by
  obtain ⟨h1, h2 | ⟨g, cap, cur, rfl, q1, q2, q3⟩⟩ := own
  · exact ⟨h1, .inl h2⟩
  · exact ⟨h1, .inr ⟨g, cap, cur, rfl, q1, by rw [hf g q1 (hu g rfl)]; exact q2, q3⟩⟩
theorem High.framed {K M : Nat} {w w' : World} {vs : List Value} (h : High K w vs) (hc : Cap M vs) (hf : ∀ b, K ≤ b → b < M → w'.heap[b]? = w.heap[b]?) : High K w' vs := by
  intro v hv x L C e h0
  obtain ⟨q1, cs, q2⟩ := h v hv x L C e h0
  exact ⟨q1, cs, by rw [hf _ q1 (hc v hv x L C e h0)]; exact q2⟩
theorem Ints.framed {K M : Nat} {w w' : World} {A : Option Addr} {L C : Nat} {zs : List Int} {vs : List Value} (h : Ints .u8 w A L zs) (hv : Value.slice A L C ∈ vs) (hg : High K w vs) (hc : Cap M vs) (hf : ∀ b, K ≤ b → b < M → w'.heap[b]? = w.heap[b]?) : Ints .u8 w' A L zs := by
  refine ⟨h.len, h.max, h.wf, ?_⟩
  rcases h.row with h0 | ⟨b, off, rfl, hlt, hcell⟩
  · exact .inl h0
  · by_cases h0 : L = 0
    · exact .inl h0
    · have q1 := (hg _ hv _ _ _ rfl (by omega)).1
      have q2 := hc _ hv _ _ _ rfl (by omega)
      have e := hf b q1 q2
      refine .inr ⟨b, off, rfl, ?_, fun i hi => (World.cell?_of_block (a := ⟨b, off + i, none⟩) e).trans (hcell i hi)⟩
      rcases Nat.lt_or_ge b w'.heap.size with p | p
      · exact p
      · rw [Array.getElem?_eq_none p] at e
        rw [Array.getElem?_eq_getElem hlt] at e
        cases e
theorem SpV.framed {K M : Nat} {w w' : World} {v : Value} (h : SpV K M w v) (hf : ∀ b, K ≤ b → b < M → w'.heap[b]? = w.heap[b]?) : SpV K M w' v := by
  obtain ⟨A, n, C, hs, B, m, D, ht, dd, e, hS, m1, m2⟩ := h
  refine ⟨A, n, C, hs, B, m, D, ht, dd, e, ⟨own_framed hS.o1 hS.u3 hf, own_framed hS.o2 hS.u4 hf, fun i hi => ?_, fun i hi => ?_, hS.g1.framed hS.u1 hf, hS.g2.framed hS.u2 hf, hS.u1, hS.u2, hS.u3, hS.u4⟩, m1, m2⟩
  · obtain ⟨A', L, C', zs, q1, q2⟩ := hS.e1 i hi
    exact ⟨A', L, C', zs, q1, q2.framed (List.mem_of_getElem? q1) hS.g1 hS.u1 hf⟩
  · obtain ⟨k, A', L, C', zs, q1, q2, q3⟩ := hS.e2 i hi
    exact ⟨k, A', L, C', zs, q1, q2, q3.framed (List.mem_of_getElem? q2) hS.g2 hS.u2 hf⟩

set_option maxRecDepth 100000 in
set_option maxHeartbeats 4000000 in
theorem spoil_walk (v : Value) (K M : Nat) (w : World) (h : SpV K M w v) (hK : K ≤ w.heap.size) :
    Calls Try.prog 32 #[v] w fun e w' => e = .returned (.tuple #[]) ∧ Below K w w' ∧ ∀ b, M ≤ b → b < w.heap.size → w'.heap[b]? = w.heap[b]? := by
  obtain ⟨A, n, C, hs, B, m, D, ht, dd, rfl, hS, m1, m2⟩ := h
  have hS0 : Hid (SpAt K M w A n C hs B m D ht dd (w.alloc (.cells #[.slice A n C, .slice B m D, .bool dd] 25))) := Lib.hid ⟨hS.below ((Below.refl _ _).alloc (Nat.le_refl _) _), BoxD.new _ _ _ _, (Below.refl _ _).alloc hK _, fun b _ hb => Below.heap_alloc _ _ _ hb⟩
  clear hS
  go_enter Try.func32, Try.ntmps32
  go_wp2
  go_loopw [2] (fun i wr => ∃ k : Nat, k ≤ n ∧ i = .int .i64 k ∧ SpAt K M w A n C hs B m D ht dd wr) (fun i _ => n - (intOf i).toNat)
  case atStart => exact ⟨0, by omega, rfl, hS0.out⟩
  case round =>
    obtain ⟨k, hk, rfl, hS⟩ := hrel
    have e0 := hS.2.1.c0
    clear hS0
    by_cases hkn : k < n
    · obtain ⟨g, A', L, C', rfl, hi, hcell, hL⟩ := hS.1.head hkn
      have hH := Lib.hid hS
      have hkn1 : (k : Int) < (n : Int) := by omega
      clear hS
      obtain ⟨wo, rfl⟩ : ∃ x : World, x = wr := ⟨_, rfl⟩
      go_wp2
      go_loopw [3] (fun i wr => ∃ j : Nat, j ≤ L ∧ i = .int .i64 j ∧ SpAt K M w (some ⟨g, 0, none⟩) n C hs B m D ht dd wr) (fun i _ => L - (intOf i).toNat)
      case atStart => exact ⟨0, by omega, rfl, hH.out⟩
      case round =>
        obtain ⟨j, hj, rfl, hS⟩ := hrel
        clear hH e0 hcell
        have e0 := hS.2.1.c0
        have hcell := (own_cell hS.1.o1 hi).1
        have hH := Lib.hid hS
        by_cases hjL : j < L
        · obtain ⟨b, off, z, cs, rfl, c0, c1, ⟨hz0, hz1⟩, hq, hKb⟩ := hS.1.byteB hi hjL
          have hjL1 : (j : Int) < (L : Int) := by omega
          clear hS
          go_wp2
          go_roundw
          case rel => exact ⟨j + 1, by omega, by go_num, hH.out.byte hq hKb (by omega) (by omega)⟩
          case measure => simp [intOf]; omega
        · obtain rfl : L = j := by omega
          clear hS
          go_wp2
          go_roundw
          case rel => exact ⟨k + 1, by omega, by go_num, hH.out⟩
          case measure => simp [intOf]; omega
    · obtain rfl : n = k := by omega
      have hH := Lib.hid hS
      clear hS
      obtain ⟨wo, rfl⟩ : ∃ x : World, x = wr := ⟨_, rfl⟩
      go_wp2
      clear e0
      go_loopw [4] (fun i wr => ∃ (k : Nat) (ht' : List Value), k ≤ m ∧ i = .int .i64 k ∧ SpAt K M w A n C hs B m D ht' dd wr) (fun i _ => m - (intOf i).toNat)
      case atStart => exact ⟨0, ht, by omega, rfl, hH.out⟩
      case round =>
        obtain ⟨k, ht', hk', rfl, hS⟩ := hrel
        have e1 := hS.2.1.c1
        clear hH
        by_cases hkn : k < m
        · obtain ⟨g, z, A', L, C', rfl, hi, hc0, hf0, hc1, hL, hKg, hg⟩ := hS.1.wait hkn
          have hH := Lib.hid (hS.place hkn ⟨hKg, hg⟩ (-7))
          have hi' := Lib.hid (show (ht'.set (k * 2) (.int .i64 (-7)))[k * 2 + 1]? = some (.slice A' L C') by rw [List.getElem?_set, if_neg (by omega)]; exact hi)
          have hkn1 : (k : Int) < (m : Int) := by omega
          clear hS
          obtain ⟨wo, rfl⟩ : ∃ x : World, x = wr := ⟨_, rfl⟩
          go_wp2
          generalize ht'.set (k * 2) (.int .i64 (-7)) = hu at *
          go_loopw [5] (fun i wr => ∃ j : Nat, j ≤ L ∧ i = .int .i64 j ∧ SpAt K M w A n C hs (some ⟨g, 0, none⟩) m D hu dd wr) (fun i _ => L - (intOf i).toNat)
          case atStart => exact ⟨0, by omega, rfl, hH.out⟩
          case round =>
            obtain ⟨j, hj, rfl, hS⟩ := hrel
            clear hH e1 hc0 hf0 hc1
            have e1 := hS.2.1.c1
            have hcell := (own_cell hS.1.o2 hi'.out).1
            have hH := Lib.hid hS
            by_cases hjL : j < L
            · obtain ⟨b, off, z', cs, rfl, c0, c1, ⟨hz0, hz1⟩, hq, hKb⟩ := hS.1.byteW hkn hi'.out hjL
              have hjL1 : (j : Int) < (L : Int) := by omega
              clear hS
              go_wp2
              go_roundw
              case rel => exact ⟨j + 1, by omega, by go_num, hH.out.byte hq hKb (by omega) (by omega)⟩
              case measure => simp [intOf]; omega
            · obtain rfl : L = j := by omega
              clear hS
              go_wp2
              go_roundw
              case rel => exact ⟨k + 1, hu, by omega, by go_num, hH.out⟩
              case measure => simp [intOf]; omega
        · obtain rfl : m = k := by omega
          have hH := Lib.hid hS.2.2
          clear hS
          go_wp2
          exact bodyPost_end (results_none (by rfl) _ _ _) rfl ⟨rfl, hH.out⟩
theorem spoil_calls (v : Value) (d : Dev) (K : Nat) (w : World) (h : DevN K w v d) (hK : K ≤ w.heap.size) :
    Calls Try.prog 32 #[v] w fun e w' => e = .returned (.tuple #[]) ∧ Below K w w' :=
  (spoil_walk v K _ w h.spV hK).mono fun _ _ h => ⟨h.1, h.2.1⟩
end Go.Proofs.Ytldgpkaecfgagaa
