/- What package disk and the reference answer are the same devices; boxes of devices that are written over one behind the other. -/
import Derived.Test.YtldgpkaecfgagaaRefDH
import Derived.Test.YtldgpkaecfgagaaRefDD
import Derived.Test.YtldgpkaecfgagaaDiskW
namespace Go.Proofs.Ytldgpkaecfgagaa
open Go.RowKit PolyM PackM FoldM DevM

theorem fullD_twice (b : List Int) : fullD (fullD b) = fullD b := by
  unfold fullD
  by_cases h : b.length = 0
  · rw [if_pos h]; simp
  · rw [if_neg h, if_neg h]
theorem fullD_small {b : List Int} {n : Nat} (h : b.length ≤ n) (hn : 128 ≤ n) : (fullD b).length ≤ n := by
  unfold fullD
  split
  · simp; exact hn
  · exact h
theorem fullW_twice (l : List (Int × List Int)) : (l.map fullW).map fullW = l.map fullW := by
  rw [List.map_map]
  apply List.map_congr_left
  intro x _
  show (x.1, fullD (fullD x.2)) = _
  rw [fullD_twice]; rfl
theorem small_none : SmallD ⟨[], [], false⟩ := ⟨by simp, by simp⟩
/-- Two devices that read alike, dead or not alike, and not too great to be read. -/
structure Alike (dd : Bool) (x y : Dev) : Prop where
  d1 : x.dead = dd
  d2 : y.dead = dd
  s1 : SmallD x
  s2 : SmallD y
  same : SameD x y
theorem Alike.none : Alike false ⟨[], [], false⟩ ⟨[], [], false⟩ := ⟨rfl, rfl, small_none, small_none, SameD.refl _⟩
theorem put_alike (d : Dev) (k : Int) (zs : List Int) (hs : SmallD d) (hz : zs.length ≤ 1000000) : Alike false (resD (writeE d k zs) ⟨d.blocks, d.wait ++ [(k, zs)], false⟩) (resD (writeE d k zs) (refPut d k zs)) := by
  by_cases hE : writeE d k zs = 0
  · have hdd := (useE_zero (writeE_zero hE).1).2.2.2.2
    rw [show resD (writeE d k zs) ⟨d.blocks, d.wait ++ [(k, zs)], false⟩ = _ from if_pos hE, show resD (writeE d k zs) (refPut d k zs) = _ from if_pos hE]
    refine ⟨rfl, hdd, ⟨hs.1, fun x hx => ?_⟩, ⟨hs.1, fun x hx => ?_⟩, hdd.symm, rfl, ?_⟩
    · rcases List.mem_append.1 hx with q | q
      · exact hs.2 x q
      · rw [List.mem_singleton.1 q]; exact hz
    · rcases List.mem_append.1 hx with q | q
      · exact hs.2 x q
      · rw [List.mem_singleton.1 q]; exact fullD_small hz (by omega)
    · show (d.wait ++ [(k, zs)]).map fullW = (d.wait ++ [(k, fullD zs)]).map fullW
      rw [List.map_append, List.map_append]
      show _ ++ [(k, fullD zs)] = _ ++ [(k, fullD (fullD zs))]
      rw [fullD_twice]
  · rw [show resD (writeE d k zs) ⟨d.blocks, d.wait ++ [(k, zs)], false⟩ = _ from if_neg hE, show resD (writeE d k zs) (refPut d k zs) = _ from if_neg hE]
    exact Alike.none
theorem fua_alike (d : Dev) (k : Int) (zs : List Int) (hs : SmallD d) (hz : zs.length ≤ 1000000) : Alike false (resD (useE d k zs) ⟨d.blocks.set k.toNat zs, d.wait.filter (keepB k), false⟩) (resD (useE d k zs) (refSure d k zs)) := by
  by_cases hE : useE d k zs = 0
  · have hdd := (useE_zero hE).2.2.2.2
    rw [show resD (useE d k zs) ⟨d.blocks.set k.toNat zs, d.wait.filter (keepB k), false⟩ = _ from if_pos hE, show resD (useE d k zs) (refSure d k zs) = _ from if_pos hE]
    refine ⟨rfl, hdd, ⟨fun b hb => ?_, fun x hx => hs.2 x (List.mem_filter.1 hx).1⟩, ⟨fun b hb => ?_, fun x hx => ?_⟩, hdd.symm, ?_, ?_⟩
    · rcases List.mem_or_eq_of_mem_set hb with q | q
      · exact hs.1 b q
      · rw [q]; exact hz
    · rcases List.mem_or_eq_of_mem_set hb with q | q
      · exact hs.1 b q
      · rw [q]; exact fullD_small hz (by omega)
    · obtain ⟨y, hy, rfl⟩ := List.mem_map.1 hx
      exact fullD_small (hs.2 y (List.mem_filter.1 hy).1) (by omega)
    · show (d.blocks.set k.toNat zs).map fullD = (d.blocks.set k.toNat (fullD zs)).map fullD
      rw [List.map_set, List.map_set, fullD_twice]
    · exact (fullW_twice _).symm
  · rw [show resD (useE d k zs) ⟨d.blocks.set k.toNat zs, d.wait.filter (keepB k), false⟩ = _ from if_neg hE, show resD (useE d k zs) (refSure d k zs) = _ from if_neg hE]
    exact Alike.none
theorem blk_small {b : List Int} (h : Blk b) : b.length ≤ 1000000 := by rcases h with q | q <;> omega
theorem flush_same {d : Dev} (hM : MayD d) : (flushD d).blocks.map fullD = (seenL d d.blocks.length).map fullD := by
  have e1 : (flushD d).blocks.length = d.blocks.length := flushL_len _ _
  apply List.ext_getElem
  · rw [List.length_map, List.length_map, e1, seenL_len]
  · intro i h1 h2
    rw [List.length_map, e1] at h1
    have h3 : seenL d d.blocks.length = (List.range d.blocks.length).map fun (j : Nat) => seen d (j : Int) := rfl
    simp only [List.getElem_map, h3, List.getElem_range]
    have q := flush_lies hM (i : Int) (by omega) (by omega)
    rw [← q]
    unfold lies
    rw [fullD_twice, show ((i : Int).toNat) = i from rfl, List.getD_eq_getElem?_getD, List.getElem?_eq_getElem (by omega)]
    rfl
theorem flush_alike (d : Dev) : Alike false (resD (flushE d) ⟨flushL d.blocks d.wait, [], false⟩) (resD (flushE d) (refFlushed d)) := by
  by_cases hE : flushE d = 0
  · obtain ⟨hM, hdd⟩ := flushE_zero hE
    rw [show resD (flushE d) ⟨flushL d.blocks d.wait, [], false⟩ = flushD d from if_pos hE, show resD (flushE d) (refFlushed d) = _ from if_pos hE]
    have hMf := flush_may hM hdd
    refine ⟨rfl, hdd, ⟨fun b hb => blk_small (blk_mem hMf hb), fun x hx => absurd hx List.not_mem_nil⟩, ⟨fun b hb => ?_, fun x hx => absurd hx List.not_mem_nil⟩, hdd.symm, flush_same hM, rfl⟩
    obtain ⟨j, hj, rfl⟩ := List.mem_map.1 hb
    rw [List.mem_range] at hj
    have q := flush_lies hM (j : Int) (by omega) (by omega)
    rw [← q]
    refine fullD_small (blk_small ?_) (by omega)
    rw [show ((j : Int).toNat) = j from rfl, List.getD_eq_getElem?_getD]
    have hl : (flushD d).blocks.length = d.blocks.length := flushL_len _ _
    rw [List.getElem?_eq_getElem (by omega)]
    exact blk_mem hMf (List.getElem_mem _)
  · rw [show resD (flushE d) ⟨flushL d.blocks d.wait, [], false⟩ = _ from if_neg hE, show resD (flushE d) (refFlushed d) = _ from if_neg hE]
    exact Alike.none
theorem kill_alike (d : Dev) : ∃ dd, Alike dd (if MayD d then ⟨List.replicate d.blocks.length [], [], true⟩ else ⟨[], [], false⟩) (if MayD d then ⟨List.replicate d.blocks.length [], [], true⟩ else ⟨[], [], false⟩) := by
  by_cases hM : MayD d
  · refine ⟨true, ?_⟩
    rw [if_pos hM]
    have : SmallD ⟨List.replicate d.blocks.length [], [], true⟩ := ⟨fun b hb => by rw [List.eq_of_mem_replicate hb]; simp, by simp⟩
    exact ⟨rfl, rfl, this, this, SameD.refl _⟩
  · refine ⟨false, ?_⟩
    rw [if_neg hM]
    exact Alike.none

/-- A box that holds a device of the call's own, from K on and ahead of M; the box stands at M. -/
def SpBox (K M : Nat) (w : World) (A : Option Addr) (n C : Nat) (B : Option Addr) (m D : Nat) (dd : Bool) : Prop :=
  SpV K M w (.agg #[.slice A n C, .slice B m D, .bool dd]) ∧ BoxD w M (.slice A n C) (.slice B m D) (.bool dd) ∧ K ≤ M
theorem SpBox.new {K : Nat} {w : World} {d : Dev} {A B : Option Addr} {n C m D : Nat} {dd : Bool} (h : DevN K w (.agg #[.slice A n C, .slice B m D, .bool dd]) d) (hK : K ≤ w.heap.size) : SpBox K w.heap.size (w.alloc (.cells #[.slice A n C, .slice B m D, .bool dd] 25)) A n C B m D dd :=
  ⟨h.spV.below ((Below.refl _ _).alloc (Nat.le_refl _) _), BoxD.new _ _ _ _, hK⟩
theorem SpBox.below {K M : Nat} {w w' : World} {A B : Option Addr} {n C m D : Nat} {dd : Bool} (h : SpBox K M w A n C B m D dd) (hb : Below w.heap.size w w') : SpBox K M w' A n C B m D dd := ⟨h.1.below hb, h.2.1.below hb, h.2.2⟩
theorem SpBox.sp {K M : Nat} {w : World} {A B : Option Addr} {n C m D : Nat} {dd : Bool} (h : SpBox K M w A n C B m D dd) : SpV K M w (.agg #[.slice A n C, .slice B m D, .bool dd]) := h.1
theorem SpBox.box {K M : Nat} {w : World} {A B : Option Addr} {n C m D : Nat} {dd : Bool} (h : SpBox K M w A n C B m D dd) : BoxD w M (.slice A n C) (.slice B m D) (.bool dd) := h.2.1
theorem SpBox.le {K M : Nat} {w : World} {A B : Option Addr} {n C m D : Nat} {dd : Bool} (h : SpBox K M w A n C B m D dd) : K ≤ M := h.2.2
theorem SpBox.lt {K M : Nat} {w : World} {A B : Option Addr} {n C m D : Nat} {dd : Bool} (h : SpBox K M w A n C B m D dd) : M < w.heap.size := h.2.1.lt
theorem SpBox.framed {K M M0 : Nat} {w w' : World} {A B : Option Addr} {n C m D : Nat} {dd : Bool} (h : SpBox K M w A n C B m D dd) (hf : ∀ b, M0 ≤ b → b < w.heap.size → w'.heap[b]? = w.heap[b]?) (h0 : M0 ≤ K) : SpBox K M w' A n C B m D dd := by
  have hl := h.lt
  have hK := h.2.2
  refine ⟨h.1.framed fun b q1 q2 => hf b (by omega) (by omega), ?_, hK⟩
  have := h.2.1
  unfold BoxD at *
  rw [hf M (by omega) hl]; exact this
end Go.Proofs.Ytldgpkaecfgagaa
