/- What the laws of layer 3 share: the contracts of Fold by its error, rows of headers of the call's own. -/
import Derived.Test.YtdoafdgikmloiaaFoldTwin
import Derived.Test.YtdoafdgikmloiaaFoldGreat
namespace Go.Proofs.Ytdoafdgikmloiaa
open Go.RowKit PolyM PackM FoldM

theorem fold_ok {a : Option Addr} {n c : Nat} {hs : List Value} {ls : List (List Int)} {w : World} (h : Slab w a n hs ls) (hc : code ls = 0) : Calls Try.prog 10 #[.slice a n c] w (PutIs w (foldL ls)) :=
  (fold_calls a n c hs ls w h).mono fun _ _ q => q.elim (fun q => q.2) (fun q => absurd hc q.1)
theorem fold_no {a : Option Addr} {n c : Nat} {hs : List Value} {ls : List (List Int)} {w : World} (h : Slab w a n hs ls) (hc : code ls ≠ 0) : Calls Try.prog 10 #[.slice a n c] w fun e w' => e = .returned (.tuple #[.slice none 0 0, .int .i64 (code ls)]) ∧ Below w.heap.size w w' :=
  (fold_calls a n c hs ls w h).mono fun _ _ q => q.elim (fun q => absurd q.1 hc) (fun q => q.2)
/-- Whatever Fold answers, its error. -/
theorem fold_any {a : Option Addr} {n c : Nat} {hs : List Value} {ls : List (List Int)} {w : World} (h : Slab w a n hs ls) : Calls Try.prog 10 #[.slice a n c] w fun e w' => ∃ v, e = .returned (.tuple #[v, .int .i64 (code ls)]) ∧ Below w.heap.size w w' :=
  (fold_calls a n c hs ls w h).mono fun _ _ q => q.elim (fun q => by obtain ⟨hc, g, _, e, _, hb⟩ := q; exact ⟨_, by rw [hc]; exact e, hb⟩) (fun q => ⟨_, q.2⟩)
theorem not_great {ls : List (List Int)} {n : Nat} (hl : ls.length = n) (h : ¬ Great ls) : n ≤ 300 ∧ ∀ b ∈ ls, b.length ≤ 1000 := by
  refine ⟨by unfold Great at h; omega, fun b hb => ?_⟩
  rcases Nat.lt_or_ge 1000 b.length with q | q
  · exact absurd (.inr ⟨b, hb, q⟩) h
  · exact q
theorem code_ne {ls : List (List Int)} (h : code ls ≠ 0) : (code ls == 0) = false ∧ (code ls != 0) = true := by
  constructor <;> simp [h]
theorem nil_ints (k : IntKind) (w : World) : Ints k w none 0 [] := ⟨rfl, by omega, by simp, .inl rfl⟩
theorem nil_text (w : World) (c : Nat) : (convert 22 9 (.slice none 0 c)).run Try.prog w = .ok (.string (strOfNums [])) w :=
  (nil_ints .u8 w).text Try.underlying22 Try.underlying5 Try.underlying9
theorem hdr_info : (Try.prog.info? 22).map (fun i => (i.zero, i.size, i.bytes)) = some (some (.slice none 0 0), 1, 24) := by kernel_rfl
theorem byte_info : (Try.prog.info? 5).map (fun i => (i.zero, i.size, i.bytes)) = some (some (.int .u8 0), 1, 1) := by kernel_rfl

/-- A row of headers of the call's own, whose bytes stand below. -/
theorem own_slab {w : World} {base n : Nat} {e : TypeId} {v : Value} {hs : List Value} {ls : List (List Int)} (own : w.ownsRow base e 1 v n hs) (hd : Hdrs w hs ls) (hm : n ≤ 9223372036854775807) : ∃ A C, v = .slice A n C ∧ Slab w A n hs ls := by
  obtain ⟨A, C, e1, _, ro, _⟩ := own_form own
  exact ⟨A, C, e1, ro, hm, hd⟩
theorem own_cells {w : World} {base n : Nat} {e : TypeId} {v : Value} {hs : List Value} (own : w.ownsRow base e 1 v n hs) (hn : 0 < n) :
    ∃ g C cur, v = .slice (some ⟨g, 0, none⟩) n C ∧ base ≤ g ∧ g < w.heap.size ∧ w.heap[g]? = some (.cells cur e (0, 0)) ∧ n ≤ cur.size ∧ cur.toList.take n = hs := by
  obtain ⟨h1, ⟨_, h2⟩ | ⟨g, cap, cur, e1, hb, hh, hnc, _, hs', ht⟩⟩ := own
  · omega
  · refine ⟨g, cap, cur, e1, hb, ?_, hh, by omega, by rwa [Nat.mul_one] at ht⟩
    rcases Nat.lt_or_ge g w.heap.size with q | q
    · exact q
    · rw [Array.getElem?_eq_none q] at hh; cases hh
/-- A store into a row of the call's own. -/
theorem own_set {w : World} {base n C g k : Nat} {e : TypeId} {hs : List Value} (own : w.ownsRow base e 1 (.slice (some ⟨g, 0, none⟩) n C) n hs) (u : Value) :
    (w.setCell ⟨g, k, none⟩ u).ownsRow base e 1 (.slice (some ⟨g, 0, none⟩) n C) n (hs.set k u) := by
  obtain ⟨h1, ⟨h2, _⟩ | ⟨g', cap, cur, e1, hb, hh, hnc, hm, hsz, ht⟩⟩ := own
  · cases h2
  · cases e1
    refine ⟨by rw [List.length_set]; exact h1, .inr ⟨g, C, cur.setIfInBounds k u, rfl, hb, heap_setCell_same _ _ _ _ _ _ hh, hnc, hm, by rw [Array.size_setIfInBounds]; exact hsz, ?_⟩⟩
    rw [Array.toList_setIfInBounds, List.take_set, ht]
theorem own_other {w : World} {base n C g size : Nat} {e : TypeId} {hs : List Value} (own : w.ownsRow base e size (.slice (some ⟨g, 0, none⟩) n C) n hs) {p : Addr} (hp : g ≠ p.block) (u : Value) :
    (w.setCell p u).ownsRow base e size (.slice (some ⟨g, 0, none⟩) n C) n hs := by
  obtain ⟨h1, ⟨h2, _⟩ | ⟨g', cap, cur, e1, hb, hh, q⟩⟩ := own
  · cases h2
  · cases e1
    exact ⟨h1, .inr ⟨g, C, cur, rfl, hb, by rw [Below.heap_setCell _ _ _ _ hp]; exact hh, q⟩⟩
theorem own_cell {w : World} {base n C g k : Nat} {e : TypeId} {hs : List Value} {u : Value} (own : w.ownsRow base e 1 (.slice (some ⟨g, 0, none⟩) n C) n hs) (hk : hs[k]? = some u) :
    w.cell? ⟨g, k, none⟩ = some u ∧ w.frozen? ⟨g, k, none⟩ = false := by
  obtain ⟨h1, ⟨h2, _⟩ | ⟨g', cap, cur, e1, hb, hh, hnc, hm, hsz, ht⟩⟩ := own
  · cases h2
  · cases e1
    refine ⟨?_, frozen_of_row _ _ _ _ _ hh⟩
    rw [cell_of_row _ _ _ _ _ _ hh, ← Array.getElem?_toList]
    rw [← ht, List.getElem?_take] at hk
    split at hk
    · exact hk
    · cases hk
/-- 'append([][]byte(nil), l...)' -/
theorem copied {w w2 : World} {a : Option Addr} {n : Nat} {hs : List Value} {ls : List (List Int)} {v2 : Value} (h : Slab w a n hs ls) (own2 : w2.ownsRow w.heap.size 22 1 v2 (0 + n) ([] ++ hs)) (hg2 : w.grownBy w2 (Value.slice none 0 0).ownBlock) :
    Below w.heap.size w w2 ∧ w2.ownsRow w.heap.size 22 1 v2 n hs ∧ Hdrs w2 hs ls := by
  have hb := (Below.refl w.heap.size w).grown hg2 (Nat.le_refl _) (by simp [Value.ownBlock])
  rw [Nat.zero_add, List.nil_append] at own2
  exact ⟨hb, own2, h.each.below hb (Nat.le_refl _)⟩
/-- 'append(x, l...)' onto a row of the call's own, the bytes of both standing below. -/
theorem appended {w3 w4 w5 : World} {na nb : Nat} {hs ht : List Value} {ls lt : List (List Int)} {v4 v5 : Value} (own3 : w4.ownsRow w3.heap.size 22 1 v4 na hs) (hb4 : Below w3.heap.size w3 w4) (own5 : w5.ownsRow w3.heap.size 22 1 v5 (na + nb) (hs ++ ht)) (hg : w4.grownBy w5 v4.ownBlock)
    (hA : Hdrs w3 hs ls) (hB : Hdrs w3 ht lt) (hm : na + nb ≤ 9223372036854775807) : Below w3.heap.size w3 w5 ∧ ∃ A C, v5 = .slice A (na + nb) C ∧ Slab w5 A (na + nb) (hs ++ ht) (ls ++ lt) := by
  have hb5 : Below w3.heap.size w3 w5 := below_own hb4 hg rfl (fun k hk => (own_lt own3 hk).2) hb4.size
  exact ⟨hb5, own_slab own5 ((hA.below hb5 (Nat.le_refl _)).append (hB.below hb5 (Nat.le_refl _))) hm⟩

/-- What Fold answers, as bytes. -/
def res (ls : List (List Int)) : List Int := if code ls = 0 then foldL ls else []
/-- A value that reads as the fold, or nil. -/
def FoldV (w : World) (ls : List (List Int)) (v : Value) : Prop :=
  (code ls = 0 ∧ ∃ g, v = .slice (some ⟨g, 0, none⟩) 128 128 ∧ w.heap[g]? = some (.cells (cells (foldL ls)) 39 (0, 0))) ∨ (code ls ≠ 0 ∧ v = .slice none 0 0)
theorem fold_v {a : Option Addr} {n c : Nat} {hs : List Value} {ls : List (List Int)} {w : World} (h : Slab w a n hs ls) : Calls Try.prog 10 #[.slice a n c] w fun e w' => ∃ v, e = .returned (.tuple #[v, .int .i64 (code ls)]) ∧ Below w.heap.size w w' ∧ FoldV w' ls v :=
  (fold_calls a n c hs ls w h).mono fun _ _ q => by
    rcases q with ⟨hc, g, _, e, hg, hb⟩ | ⟨hc, e, hb⟩
    · exact ⟨_, by rw [hc]; exact e, hb, .inl ⟨hc, g, rfl, hg⟩⟩
    · exact ⟨_, e, hb, .inr ⟨hc, rfl⟩⟩
theorem FoldV.text {w : World} {ls : List (List Int)} {v : Value} (h : FoldV w ls v) (hb : ∀ b ∈ ls, Bytes b) {W : World} (hW : Below w.heap.size w W) : (convert 22 9 v).run Try.prog W = .ok (.string (strOfNums (res ls))) W := by
  rcases h with ⟨hc, g, rfl, hg⟩ | ⟨hc, rfl⟩
  · rw [show res ls = foldL ls by unfold res; rw [if_pos hc]]
    exact block_text hg (foldL_len _) (foldL_bytes hb) (Nat.le_refl _) hW
  · rw [show res ls = [] by unfold res; rw [if_neg hc]]
    exact nil_text _ _
/-- A literal of headers in new memory: a row to append from. -/
theorem row_new (w : World) (vs : List Value) : Row (w.alloc (.cells vs.toArray 22)) 1 (some ⟨w.heap.size, 0, none⟩) vs.length vs := by
  have hg : (w.alloc (.cells vs.toArray 22)).heap[w.heap.size]? = some (.cells vs.toArray 22 (0, 0)) := heap_alloc_new _ _
  refine ⟨by omega, .inr ⟨w.heap.size, 0, rfl, by simp, fun i v hv => ?_⟩⟩
  rw [cell_of_row _ _ _ _ _ _ hg, Nat.zero_add, ← hv, ← Array.getElem?_toList]
/-- 'append([][]byte(nil), l...)' and then a literal: what the second append begins with. -/
theorem copied_box {w w2 : World} {a : Option Addr} {n : Nat} {hs : List Value} {ls : List (List Int)} {v2 : Value} (h : Slab w a n hs ls) (own2 : w2.ownsRow w.heap.size 22 1 v2 (0 + n) ([] ++ hs)) (hg2 : w.grownBy w2 (Value.slice none 0 0).ownBlock) (vs : List Value) :
    Below w.heap.size w (w2.alloc (.cells vs.toArray 22)) ∧ (w2.alloc (.cells vs.toArray 22)).ownsRow w.heap.size 22 1 v2 n hs ∧ Row (w2.alloc (.cells vs.toArray 22)) 1 (some ⟨w2.heap.size, 0, none⟩) vs.length vs := by
  obtain ⟨hb, own3, _⟩ := copied h own2 hg2
  have hb3 := hb.trans (((Below.refl w2.heap.size w2).alloc (Nat.le_refl _) (.cells vs.toArray 22)).mono hb.size)
  exact ⟨hb3, own_below own3 ((Below.refl _ _).alloc (Nat.le_refl _) _), row_new _ _⟩
end Go.Proofs.Ytdoafdgikmloiaa
