/- Plain mathematics of devices (layer 4): which may be, which are great, what is read. -/
import Derived.Test.YtldgpkaecfgagaaDev
namespace Go.Proofs.Ytldgpkaecfgagaa.DevM
open PolyM PackM FoldM

/-- A block's bytes. -/
def fullD (b : List Int) : List Int := if b.length = 0 then List.replicate 128 0 else b
theorem fullD_pos (b : List Int) : 0 < (fullD b).length := by
  unfold fullD
  split
  · simp
  · omega
theorem fullD_bytes {b : List Int} (h : Bytes b) : Bytes (fullD b) := by
  unfold fullD
  split
  · intro z hz; rw [List.eq_of_mem_replicate hz]; omega
  · exact h
theorem fullD_len {b : List Int} (h : Blk b) : (fullD b).length = 128 := by
  unfold fullD
  split
  · simp
  · rcases h with q | q
    · contradiction
    · exact q
/-- May a device be? -/
def MayD (d : Dev) : Prop := 1 ≤ d.blocks.length ∧ d.blocks.length ≤ 256 ∧ d.wait.length ≤ 1024 ∧ (d.dead = true → d.wait.length = 0) ∧ (∀ b ∈ d.blocks, Blk b ∧ (d.dead = true → b.length = 0)) ∧ ∀ x ∈ d.wait, 0 ≤ x.1 ∧ x.1 < d.blocks.length ∧ Blk x.2
instance (d : Dev) : Decidable (MayD d) := inferInstanceAs (Decidable (_ ∧ _))
/-- How large the first k are. -/
def gsum (l : List (List Int)) : Nat → Nat
  | 0 => 0
  | k + 1 => gsum l k + (8 + min (l.getD k []).length 100000)
theorem gsum_le (l : List (List Int)) : ∀ k, gsum l k ≤ k * 100008
  | 0 => Nat.le_refl _
  | k + 1 => by
    have := gsum_le l k
    show gsum l k + _ ≤ _
    omega
theorem gsum_one (l : List (List Int)) : ∀ {k i : Nat}, i < k → 8 + min (l.getD i []).length 100000 ≤ gsum l k
  | k + 1, i, h => by
    show _ ≤ gsum l k + _
    rcases Nat.lt_or_ge i k with q | q
    · have := gsum_one l q
      omega
    · obtain rfl : i = k := by omega
      omega
theorem gsum_zero (l : List (List Int)) : gsum l 0 = 0 := rfl
theorem gsum_succ (l : List (List Int)) (k : Nat) : gsum l (k + 1) = gsum l k + (8 + min (l.getD k []).length 100000) := rfl
theorem gsum_400 (l : List (List Int)) (n : Nat) : gsum l (min 400 n) ≤ 40003200 := by
  have h := gsum_le l (min 400 n)
  have h2 : min 400 n ≤ 400 := Nat.min_le_left _ _
  generalize gsum l (min 400 n) = x at *
  generalize min 400 n = y at *
  omega
def GreatD (d : Dev) : Prop := 300 < d.blocks.length ∨ 1100 < d.wait.length ∨ 60000 < gsum d.blocks (min 400 d.blocks.length) + gsum (d.wait.map (·.2)) (min 1200 d.wait.length)
instance (d : Dev) : Decidable (GreatD d) := inferInstanceAs (Decidable (_ ∨ _))
theorem not_great {d : Dev} (h : ¬ GreatD d) : d.blocks.length ≤ 300 ∧ d.wait.length ≤ 1100 ∧ (∀ b ∈ d.blocks, b.length ≤ 60000) ∧ ∀ x ∈ d.wait, x.2.length ≤ 60000 := by
  unfold GreatD at h
  refine ⟨by omega, by omega, fun b hb => ?_, fun x hx => ?_⟩
  · obtain ⟨i, hi, e⟩ := List.mem_iff_getElem.1 hb
    have := gsum_one d.blocks (k := min 400 d.blocks.length) (i := i) (by omega)
    rw [List.getD_eq_getElem?_getD, List.getElem?_eq_getElem hi, e, Option.getD_some] at this
    omega
  · obtain ⟨i, hi, e⟩ := List.mem_iff_getElem.1 hx
    have := gsum_one (d.wait.map (·.2)) (k := min 1200 d.wait.length) (i := i) (by omega)
    rw [List.getD_eq_getElem?_getD, List.getElem?_map, List.getElem?_eq_getElem hi, e, Option.map_some, Option.getD_some] at this
    omega
attribute [irreducible] gsum
end Go.Proofs.Ytldgpkaecfgagaa.DevM
