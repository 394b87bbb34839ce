/- Devices: blocks, what waits, dead or not; how one reads in memory. -/
import Derived.Test.YtldgpkaecfgagaaSlab
import Derived.Test.YtldgpkaecfgagaaFoldMath
import Derived.Deep.SlicePairs
import Derived.Deep.Strs
namespace Go.Proofs.Ytldgpkaecfgagaa
open Go.RowKit Go.WideShapes Go.ChangeShapes PolyM

/-- A device. -/
structure Dev where
  blocks : List (List Int)
  wait : List (Int × List Int)
  dead : Bool
/-- Each of these pairs of cells is a place and a header that reads as these bytes. -/
def Waits (w : World) (hs : List Value) (ls : List (Int × List Int)) : Prop :=
  hs.length = ls.length * 2 ∧ ∀ (i : Nat) (x : Int × List Int), ls[i]? = some x → (Lit.int .i64 x.1).wf = true ∧ ∃ (A : Option Addr) (L C : Nat), hs[i * 2]? = some (.int .i64 x.1) ∧ hs[i * 2 + 1]? = some (.slice A L C) ∧ Ints .u8 w A L x.2
theorem Waits.below {w w' : World} {hs : List Value} {ls : List (Int × List Int)} {B : Nat} (h : Waits w hs ls) (hb : Below B w w') (hB : w.heap.size ≤ B) : Waits w' hs ls := by
  refine ⟨h.1, fun i x hx => ?_⟩
  obtain ⟨h1, A, L, C, e1, e2, e3⟩ := h.2 i x hx
  exact ⟨h1, A, L, C, e1, e2, e3.below hb hB⟩
theorem Waits.nil (w : World) : Waits w [] [] := ⟨rfl, fun i x h => by simp at h⟩
structure WSlab (w : World) (a : Option Addr) (n : Nat) (hs : List Value) (ls : List (Int × List Int)) : Prop where
  row : Row w 2 a n hs
  max : n ≤ 9223372036854775807
  each : Waits w hs ls
theorem WSlab.below {w w' : World} {a : Option Addr} {n B : Nat} {hs : List Value} {ls : List (Int × List Int)} (h : WSlab w a n hs ls) (hb : Below B w w') (hB : w.heap.size ≤ B) : WSlab w' a n hs ls := ⟨h.row.below hb hB, h.max, h.each.below hb hB⟩
theorem WSlab.len {w : World} {a : Option Addr} {n : Nat} {hs : List Value} {ls : List (Int × List Int)} (h : WSlab w a n hs ls) : ls.length = n := by have := h.row.1; have := h.each.1; omega
theorem WSlab.at {w : World} {a : Option Addr} {n : Nat} {hs : List Value} {ls : List (Int × List Int)} (h : WSlab w a n hs ls) {i : Nat} (hi : i < n) :
    ∃ (b off : Nat) (A : Option Addr) (L C : Nat) (x : Int × List Int), a = some ⟨b, off, none⟩ ∧ b < w.heap.size ∧ ls[i]? = some x ∧ w.cell? ⟨b, off + i * 2, none⟩ = some (.int .i64 x.1) ∧ w.cell? ⟨b, off + i * 2 + 1, none⟩ = some (.slice A L C) ∧ (Lit.int .i64 x.1).wf = true ∧ Ints .u8 w A L x.2 ∧ hs[i * 2]? = some (.int .i64 x.1) ∧ hs[i * 2 + 1]? = some (.slice A L C) := by
  have hl := h.len
  rcases h.row.2 with h0 | ⟨b, off, e, hlt, hc⟩
  · omega
  · have hx : ls[i]? = some (ls[i]'(by omega)) := List.getElem?_eq_getElem _
    obtain ⟨h1, A, L, C, e1, e2, e3⟩ := h.each.2 i _ hx
    exact ⟨b, off, A, L, C, _, e, hlt, hx, hc _ _ e1, by rw [Nat.add_assoc]; exact hc _ _ e2, h1, e3, e1, e2⟩
theorem WSlab.empty (w : World) : WSlab w none 0 [] [] := ⟨⟨rfl, .inl rfl⟩, by omega, Waits.nil w⟩

/-- This value reads as this device. -/
def DevV (w : World) (v : Value) (d : Dev) : Prop :=
  ∃ (A : Option Addr) (n C : Nat) (hs : List Value) (B : Option Addr) (m D : Nat) (ht : List Value), v = .agg #[.slice A n C, .slice B m D, .bool d.dead] ∧ Slab w A n hs d.blocks ∧ WSlab w B m ht d.wait
theorem DevV.below {w w' : World} {v : Value} {d : Dev} {K : Nat} (h : DevV w v d) (hb : Below K w w') (hK : w.heap.size ≤ K) : DevV w' v d := by
  obtain ⟨A, n, C, hs, B, m, D, ht, e, h1, h2⟩ := h
  exact ⟨A, n, C, hs, B, m, D, ht, e, h1.below hb hK, h2.below hb hK⟩

theorem open_wslab {H : Type} {enc : TypeId × Value → H} {P : Program} {w : World} {base : Nat} {held : Bool} {t e u : TypeId} {f0 f1 : Field} {fuel : Nat} {cs : List Value} {x : DataW H × List MemPlace} (ht : P.underlying t = some (.slice e)) (he : P.underlying e = some (.struct #[f0, f1]))
    (ce : P.cellsOf e = 2) (o0 : f0.offset = 0) (o1 : f1.offset = 1) (c0 : P.cellsOf f0.type = 1) (c1 : P.cellsOf f1.type = 1) (k0 : P.underlying f0.type = some (.int .i64)) (k1 : P.underlying f1.type = some (.slice u)) (hq : P.underlying u = some (.int .u8)) (cu : P.cellsOf u = 1)
    (h : DataW.trod enc P w base (fun _ => true) held fuel t cs = some x) : ∃ a len cap hs ls, cs = [.slice a len cap] ∧ WSlab w a len hs ls ∧ len ≤ cap := by
  rcases Go.Deep.open_slice_pairs ht he ce o0 o1 c0 c1 h with ⟨rfl, _⟩ | ⟨ad, len, cap, m, n, V0, V1, D0, D1, P0, P1, rfl, _, hl, hm, hmm, _, hr⟩
  · exact ⟨none, 0, 0, [], [], rfl, WSlab.empty w, Nat.le_refl _⟩
  · simp only [if_true] at hmm
    subst hmm
    have one : ∀ i, i < m → ∃ y : Int × List Int, (Lit.int .i64 y.1).wf = true ∧ V0 i = .int .i64 y.1 ∧ ∃ (A : Option Addr) (L C : Nat), V1 i = .slice A L C ∧ Ints .u8 w A L y.2 := by
      intro i hi
      obtain ⟨_, _, t0, t1⟩ := hr i hi
      obtain ⟨z, ez, _, wz⟩ := DataW.trod_int k0 t0
      simp at ez
      rcases open_ints k1 hq cu t1 with ⟨hcs, _⟩ | ⟨a', l', c', zs, hcs, _, hl', hm', hz', _, hcell, hwz⟩
      · simp at hcs
        exact ⟨(z, []), wz, ez, none, 0, 0, hcs, ⟨rfl, by omega, by simp, .inl rfl⟩⟩
      · simp at hcs
        exact ⟨(z, zs.take l'), wz, ez, some a', l', c', hcs, Ints.of_cells hl' hm' (by simpa using hz') hcell hwz⟩
    obtain ⟨y, hy⟩ := Go.Deep.choose_lt one
    refine ⟨some ad, len, m, (List.range (len * 2)).map fun j => if j % 2 = 0 then V0 (j / 2) else V1 (j / 2), (List.range len).map y, rfl, ⟨⟨?_, ?_⟩, by unfold maxLen at hm; omega, ?_, fun i x hx => ?_⟩, hl⟩
    · simp
    · by_cases h0 : len = 0
      · exact .inl h0
      · obtain ⟨b, off, spot⟩ := ad
        have hspot : spot = none := by simpa [Addr.add] using World.cell?_spot (hr 0 (by omega)).1
        subst hspot
        refine .inr ⟨b, off, rfl, cell_lt (hr 0 (by omega)).1, fun i v hv => ?_⟩
        rw [List.getElem?_map] at hv
        rcases Nat.lt_or_ge i (len * 2) with q | q
        · rw [List.getElem?_range q] at hv
          injection hv with hv
          rw [← hv, ← add_plain']
          by_cases hp : i % 2 = 0
          · show _ = some (if i % 2 = 0 then V0 (i / 2) else V1 (i / 2))
            rw [if_pos hp]
            have := (hr (i / 2) (by omega)).1
            rwa [show i / 2 * 2 = i by omega] at this
          · show _ = some (if i % 2 = 0 then V0 (i / 2) else V1 (i / 2))
            rw [if_neg hp]
            have := (hr (i / 2) (by omega)).2.1
            rwa [show i / 2 * 2 + 1 = i by omega] at this
        · rw [List.getElem?_eq_none (by simpa using q)] at hv
          cases hv
    · simp
    · rw [List.getElem?_map] at hx
      rcases Nat.lt_or_ge i len with q | q
      · rw [List.getElem?_range q] at hx
        injection hx with hx
        subst hx
        obtain ⟨h1, h2, A, L, C, h3, h4⟩ := hy i (by omega)
        refine ⟨h1, A, L, C, ?_, ?_, h4⟩
        · rw [List.getElem?_map, List.getElem?_range (by omega)]
          show some (if i * 2 % 2 = 0 then V0 (i * 2 / 2) else _) = _
          rw [if_pos (by omega), show i * 2 / 2 = i by omega, h2]
        · rw [List.getElem?_map, List.getElem?_range (by omega)]
          show some (if (i * 2 + 1) % 2 = 0 then _ else V1 ((i * 2 + 1) / 2)) = _
          rw [if_neg (by omega), show (i * 2 + 1) / 2 = i by omega, h3]
      · rw [List.getElem?_eq_none (by simpa using q)] at hx
        cases hx

/-- A device by value. -/
theorem open_dev {H : Type} {enc : TypeId × Value → H} {P : Program} {w : World} {r : Reach} {base b : Nat} {held : Bool} {t eb ew u : TypeId} {f0 f1 f2 g0 g1 : Field} {v : Value} {d : DataW H} {p : List MemPlace} (ht : P.underlying t = some (.struct #[f0, f1, f2])) (hct : P.cellsOf t = 3)
    (o0 : f0.offset = 0) (o1 : f1.offset = 1) (o2 : f2.offset = 2) (c0 : P.cellsOf f0.type = 1) (c1 : P.cellsOf f1.type = 1) (c2 : P.cellsOf f2.type = 1)
    (k0 : P.underlying f0.type = some (.slice eb)) (kb : P.underlying eb = some (.slice u)) (hq : P.underlying u = some (.int .u8)) (cb : P.cellsOf eb = 1) (cu : P.cellsOf u = 1)
    (k1 : P.underlying f1.type = some (.slice ew)) (kw : P.underlying ew = some (.struct #[g0, g1])) (cw : P.cellsOf ew = 2) (p0 : g0.offset = 0) (p1 : g1.offset = 1) (d0 : P.cellsOf g0.type = 1) (d1 : P.cellsOf g1.type = 1) (l0 : P.underlying g0.type = some (.int .i64)) (l1 : P.underlying g1.type = some (.slice u))
    (k2 : P.underlying f2.type = some .bool) (hv : Value.okWide P w r base t v) (h : DataW.Trod enc P w b (fun _ => true) held t v d p) : ∃ dv, DevV w v dv := by
  obtain ⟨cs, rfl, hsz⟩ := okWide_struct ht hv
  obtain ⟨fuel, hf⟩ := h
  obtain ⟨y0, y1, y2, n, _, hl, t0, t1, t2⟩ := Go.Deep.trod_struct3 ht hf
  have hcs : (Value.agg cs).cells.toList = cs.toList := rfl
  rw [hcs] at hl t0 t1 t2
  rw [hct] at hl
  obtain ⟨x0, x1, x2, e⟩ : ∃ x0 x1 x2, cs.toList = [x0, x1, x2] := by
    match cs.toList, hl with
    | [x0, x1, x2], _ => exact ⟨_, _, _, rfl⟩
  rw [e, o0, c0] at t0
  rw [e, o1, c1] at t1
  rw [e, o2, c2] at t2
  simp at t0 t1 t2
  obtain ⟨B, m, D, hs2, ls2, e1, h2, _⟩ := open_wslab k1 kw cw p0 p1 d0 d1 l0 l1 hq cu t1
  obtain ⟨bd, e2, _⟩ := DataW.trod_bool k2 t2
  obtain ⟨A, len, C, e0⟩ : ∃ A len C, x0 = .slice A len C := by
    rcases Go.Deep.open_slice1 k0 cb t0 with ⟨hcs, _⟩ | ⟨a, len, cap, _, _, _, _, _, hcs, _⟩
    · simp at hcs; exact ⟨_, _, _, hcs⟩
    · simp at hcs; exact ⟨_, _, _, hcs⟩
  subst e0
  obtain ⟨hs, ls, h1, _⟩ := open_slab k0 kb hq cb cu t0
  simp at e1 e2
  refine ⟨⟨ls, ls2, bd⟩, A, len, C, hs, B, m, D, hs2, ?_, h1, h2⟩
  congr 1
  apply Array.ext'
  rw [e, e1, e2]
end Go.Proofs.Ytldgpkaecfgagaa
