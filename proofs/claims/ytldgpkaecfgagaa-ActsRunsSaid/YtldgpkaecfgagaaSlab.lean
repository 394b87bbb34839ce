/- Slices of slices of bytes: a row of headers, each of which reads as bytes. -/
import Derived.Test.YtldgpkaecfgagaaBlocks
import Derived.Deep.Matrix
namespace Go.Proofs.Ytldgpkaecfgagaa
open Go.RowKit Go.WideShapes Go.ChangeShapes PolyM

/-- Each of these headers reads as these bytes. -/
def Hdrs (w : World) (hs : List Value) (ls : List (List Int)) : Prop :=
  hs.length = ls.length ∧ ∀ (i : Nat) (v : Value), hs[i]? = some v → ∃ (A : Option Addr) (L C : Nat) (zs : List Int), ls[i]? = some zs ∧ v = Value.slice A L C ∧ Ints .u8 w A L zs
theorem Hdrs.below {w w' : World} {hs : List Value} {ls : List (List Int)} {B : Nat} (h : Hdrs w hs ls) (hb : Below B w w') (hB : w.heap.size ≤ B) : Hdrs w' hs ls := by
  refine ⟨h.1, fun i v hv => ?_⟩
  obtain ⟨A, L, C, zs, e1, e2, e3⟩ := h.2 i v hv
  exact ⟨A, L, C, zs, e1, e2, e3.below hb hB⟩
theorem Hdrs.nil (w : World) : Hdrs w [] [] := ⟨rfl, fun i v h => by simp at h⟩
theorem Hdrs.one {w : World} {A : Option Addr} {L C : Nat} {zs : List Int} (h : Ints .u8 w A L zs) : Hdrs w [.slice A L C] [zs] := by
  refine ⟨rfl, fun i v hv => ?_⟩
  rcases i with _ | i
  · simp at hv
    subst hv
    exact ⟨A, L, C, zs, rfl, rfl, h⟩
  · simp at hv
theorem Hdrs.append {w : World} {hs hs' : List Value} {ls ls' : List (List Int)} (h : Hdrs w hs ls) (h' : Hdrs w hs' ls') : Hdrs w (hs ++ hs') (ls ++ ls') := by
  refine ⟨by rw [List.length_append, List.length_append, h.1, h'.1], fun i v hv => ?_⟩
  rcases Nat.lt_or_ge i hs.length with q | q
  · rw [List.getElem?_append_left q] at hv
    obtain ⟨A, L, C, zs, e1, e2⟩ := h.2 i v hv
    exact ⟨A, L, C, zs, by rw [List.getElem?_append_left (by rw [← h.1]; exact q)]; exact e1, e2⟩
  · rw [List.getElem?_append_right q] at hv
    obtain ⟨A, L, C, zs, e1, e2⟩ := h'.2 _ v hv
    exact ⟨A, L, C, zs, by rw [List.getElem?_append_right (by rw [← h.1]; exact q), ← h.1]; exact e1, e2⟩
theorem Hdrs.take {w : World} {hs : List Value} {ls : List (List Int)} (h : Hdrs w hs ls) (k : Nat) : Hdrs w (hs.take k) (ls.take k) := by
  refine ⟨by rw [List.length_take, List.length_take, h.1], fun i v hv => ?_⟩
  rw [List.getElem?_take] at hv ⊢
  split at hv
  · rename_i q
    obtain ⟨A, L, C, zs, e1, e2⟩ := h.2 i v hv
    exact ⟨A, L, C, zs, by rw [if_pos q]; exact e1, e2⟩
  · cases hv
theorem Hdrs.erase {w : World} {hs : List Value} {ls : List (List Int)} (h : Hdrs w hs ls) (p : Nat) : Hdrs w (hs.eraseIdx p) (ls.eraseIdx p) := by
  refine ⟨by rw [List.length_eraseIdx, List.length_eraseIdx, h.1], fun i v hv => ?_⟩
  rw [List.getElem?_eraseIdx] at hv ⊢
  by_cases q : i < p
  · rw [if_pos q] at hv ⊢
    exact h.2 _ v hv
  · rw [if_neg q] at hv ⊢
    exact h.2 _ v hv
theorem Hdrs.set {w : World} {hs : List Value} {ls : List (List Int)} (h : Hdrs w hs ls) (p : Nat) {A : Option Addr} {L C : Nat} {zs : List Int} (hz : Ints .u8 w A L zs) : Hdrs w (hs.set p (.slice A L C)) (ls.set p zs) := by
  refine ⟨by rw [List.length_set, List.length_set, h.1], fun i v hv => ?_⟩
  rw [List.getElem?_set] at hv ⊢
  rw [← h.1]
  by_cases q : p = i
  · rw [if_pos q] at hv ⊢
    by_cases q2 : p < hs.length
    · rw [if_pos q2] at hv ⊢
      injection hv with hv
      exact ⟨A, L, C, zs, rfl, hv.symm, hz⟩
    · rw [if_neg q2] at hv; cases hv
  · rw [if_neg q] at hv ⊢
    exact h.2 i v hv
theorem Hdrs.bytes {w : World} {hs : List Value} {ls : List (List Int)} (h : Hdrs w hs ls) : ∀ b ∈ ls, Bytes b := by
  intro b hb
  obtain ⟨i, hi, e⟩ := List.mem_iff_getElem.1 hb
  obtain ⟨A, L, C, zs, e1, _, e3⟩ := h.2 i (hs[i]'(by rw [h.1]; exact hi)) (List.getElem?_eq_getElem _)
  rw [List.getElem?_eq_getElem hi] at e1
  injection e1 with e1
  rw [← e, e1]
  exact bytes_of e3
theorem Hdrs.one_cell {w : World} {hs : List Value} {ls : List (List Int)} (h : Hdrs w hs ls) : ∀ v ∈ hs, v.oneCell' = true := by
  intro v hv
  obtain ⟨i, hi, e⟩ := List.mem_iff_getElem.1 hv
  obtain ⟨A, L, C, zs, _, e2, _⟩ := h.2 i v (by rw [List.getElem?_eq_getElem hi, e])
  rw [e2]; rfl

/-- The slice that begins at 'a' has these headers, which read as these bytes. -/
structure Slab (w : World) (a : Option Addr) (n : Nat) (hs : List Value) (ls : List (List Int)) : Prop where
  row : Row w 1 a n hs
  max : n ≤ 9223372036854775807
  each : Hdrs w hs ls
theorem Slab.below {w w' : World} {a : Option Addr} {n B : Nat} {hs : List Value} {ls : List (List Int)} (h : Slab w a n hs ls) (hb : Below B w w') (hB : w.heap.size ≤ B) : Slab w' a n hs ls := ⟨h.row.below hb hB, h.max, h.each.below hb hB⟩
theorem Slab.hlen {w : World} {a : Option Addr} {n : Nat} {hs : List Value} {ls : List (List Int)} (h : Slab w a n hs ls) : hs.length = n := by have := h.row.1; omega
theorem Slab.len {w : World} {a : Option Addr} {n : Nat} {hs : List Value} {ls : List (List Int)} (h : Slab w a n hs ls) : ls.length = n := by rw [← h.each.1, h.hlen]
theorem Slab.at {w : World} {a : Option Addr} {n : Nat} {hs : List Value} {ls : List (List Int)} (h : Slab w a n hs ls) {i : Nat} (hi : i < n) :
    ∃ (b off : Nat) (A : Option Addr) (L C : Nat) (zs : List Int), a = some ⟨b, off, none⟩ ∧ b < w.heap.size ∧ hs[i]? = some (.slice A L C) ∧ ls[i]? = some zs ∧ w.cell? ⟨b, off + i, none⟩ = some (.slice A L C) ∧ Ints .u8 w A L zs := by
  have hl := h.hlen
  rcases h.row.2 with h0 | ⟨b, off, e, hlt, hc⟩
  · omega
  · have hv : hs[i]? = some (hs[i]'(by omega)) := List.getElem?_eq_getElem _
    obtain ⟨A, L, C, zs, e1, e2, e3⟩ := h.each.2 i _ hv
    rw [e2] at hv
    exact ⟨b, off, A, L, C, zs, e, hlt, hv, e1, hc i _ hv, e3⟩
theorem Slab.at_below {w w' : World} {a : Option Addr} {n : Nat} {hs : List Value} {ls : List (List Int)} (h : Slab w a n hs ls) {i : Nat} (hi : i < n) (hb : Below w.heap.size w w') :
    ∃ (b off : Nat) (A : Option Addr) (L C : Nat) (zs : List Int), a = some ⟨b, off, none⟩ ∧ ls[i]? = some zs ∧ w'.cell? ⟨b, off + i, none⟩ = some (.slice A L C) ∧ Ints .u8 w' A L zs ∧ Hid (Ints .u8 w A L zs) := by
  obtain ⟨b, off, A, L, C, zs, e, hlt, _, e2, e3, e4⟩ := h.at hi
  exact ⟨b, off, A, L, C, zs, e, e2, by rw [hb.cell (p := ⟨b, off + i, none⟩) hlt]; exact e3, e4.below hb (Nat.le_refl _), e4⟩
theorem Slab.ofRow {w : World} {a : Option Addr} {n : Nat} {hs : List Value} {ls : List (List Int)} (h : Row w 1 a n hs) (he : Hdrs w hs ls) (hm : n ≤ 9223372036854775807) : Slab w a n hs ls := ⟨h, hm, he⟩
theorem Slab.empty (w : World) : Slab w none 0 [] [] := ⟨⟨rfl, .inl rfl⟩, by omega, Hdrs.nil w⟩

theorem open_slab {H : Type} {enc : TypeId × Value → H} {P : Program} {w : World} {base : Nat} {held : Bool} {t e q : TypeId} {fuel : Nat} {a : Option Addr} {len cap : Nat} {x : DataW H × List MemPlace} (ht : P.underlying t = some (.slice e)) (he : P.underlying e = some (.slice q)) (hq : P.underlying q = some (.int .u8))
    (ce : P.cellsOf e = 1) (cq : P.cellsOf q = 1) (h : DataW.trod enc P w base (fun _ => true) held fuel t [.slice a len cap] = some x) : ∃ hs ls, Slab w a len hs ls ∧ len ≤ cap := by
  rcases Go.Deep.open_int_rows ht he hq ce cq h with ⟨hcs, _⟩ | ⟨ad, l, c, A, L, C, Z, hcs, _, hl, hm, _, hr⟩
  · simp at hcs
    obtain ⟨rfl, rfl, rfl⟩ := hcs
    exact ⟨[], [], Slab.empty w, by omega⟩
  · simp at hcs
    obtain ⟨rfl, rfl, rfl⟩ := hcs
    refine ⟨(List.range len).map fun r => Value.slice (A r) (L r) (C r), (List.range len).map fun r => (Z r).take (L r), ⟨⟨by simp, ?_⟩, by unfold maxLen at hm; omega, by simp, fun i v hv => ?_⟩, hl⟩
    · by_cases h0 : len = 0
      · exact .inl h0
      · obtain ⟨b, off, spot⟩ := ad
        have hspot : spot = none := by simpa [Addr.add] using World.cell?_spot (hr 0 (by omega)).1
        subst hspot
        refine .inr ⟨b, off, rfl, ?_, fun i v hv => ?_⟩
        · exact cell_lt (hr 0 (by omega)).1
        · rw [List.getElem?_map] at hv
          rcases Nat.lt_or_ge i len with q | q
          · rw [List.getElem?_range q] at hv
            injection hv with hv
            rw [← add_plain', (hr i (by omega)).1, ← hv]
          · rw [List.getElem?_eq_none (by simpa using q)] at hv
            cases hv
    · rw [List.getElem?_map] at hv ⊢
      rcases Nat.lt_or_ge i len with q | q
      · rw [List.getElem?_range q] at hv ⊢
        injection hv with hv
        refine ⟨A i, L i, C i, _, rfl, hv.symm, ?_⟩
        obtain ⟨_, r1, r2, r3, r4, r5, r6⟩ := hr i (by omega)
        rcases hA : A i with _ | a'
        · have hC := r5 hA
          have hL : L i = 0 := by omega
          show Ints _ _ none (L i) ((Z i).take (L i))
          rw [hL, List.take_zero]
          exact ⟨rfl, by omega, by simp, .inl rfl⟩
        · obtain ⟨_, hcell⟩ := r6 a' hA
          exact Ints.of_cells r1 r2 r3 (by rw [r3]; exact hcell) r4
      · rw [List.getElem?_eq_none (by simpa using q)] at hv
        cases hv
end Go.Proofs.Ytldgpkaecfgagaa
