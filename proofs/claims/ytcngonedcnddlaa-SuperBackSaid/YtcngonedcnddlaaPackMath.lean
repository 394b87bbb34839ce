/- Plain mathematics of blocks of 128 bytes and of numbers in them (layer 2): no program in it. -/
import Derived.Test.YtcngonedcnddlaaBytesDef
namespace Go.Proofs.Ytcngonedcnddlaa.PackM
open PolyM (Bytes)

/-- Byte k of a number. -/
def byt (n : Int) (k : Nat) : Int := n / 256 ^ k % 256
/-- A block as 128 bytes. -/
def pad (zs : List Int) : List Int := zs ++ List.replicate (128 - zs.length) 0
/-- The block with k bytes of n from p on. -/
def putL (zs : List Int) (p k : Nat) (n : Int) : List Int := (List.range 128).map fun j => if p ≤ j ∧ j < p + k then byt n (j - p) else (pad zs).getD j 0
/-- The number of k bytes that stands from p on. -/
def takeN (zs : List Int) (p : Nat) : Nat → Int
  | 0 => 0
  | k + 1 => takeN zs p k + (pad zs).getD (p + k) 0 * 256 ^ k

theorem pad_len {zs : List Int} (h : zs.length ≤ 128) : (pad zs).length = 128 := by simp [pad]; omega
theorem pad_whole {zs : List Int} (h : zs.length = 128) : pad zs = zs := by simp [pad, h]
theorem pad_nil : pad [] = List.replicate 128 0 := rfl
theorem pad_getD {zs : List Int} (j : Nat) : (pad zs).getD j 0 = zs.getD j 0 := by
  unfold pad
  simp only [List.getD_eq_getElem?_getD, List.getElem?_append]
  split
  · rfl
  · rw [List.getElem?_eq_none (l := zs) (by omega), List.getElem?_replicate]
    split <;> rfl
theorem pad_bytes {zs : List Int} (h : Bytes zs) : Bytes (pad zs) := by
  intro z hz
  rcases List.mem_append.1 hz with q | q
  · exact h z q
  · rw [List.eq_of_mem_replicate q]; omega
theorem byt_in (n : Int) (k : Nat) : 0 ≤ byt n k ∧ byt n k ≤ 255 := by unfold byt; omega
theorem getD_in {zs : List Int} (h : Bytes zs) (j : Nat) : 0 ≤ zs.getD j 0 ∧ zs.getD j 0 ≤ 255 := by
  rw [List.getD_eq_getElem?_getD]
  rcases hz : zs[j]? with _ | z
  · simp
  · exact h z (List.mem_of_getElem? hz)
theorem putL_len (zs : List Int) (p k : Nat) (n : Int) : (putL zs p k n).length = 128 := by simp [putL]
theorem putL_getD {zs : List Int} {p k : Nat} {n : Int} {j : Nat} (h : j < 128) : (putL zs p k n).getD j 0 = if p ≤ j ∧ j < p + k then byt n (j - p) else zs.getD j 0 := by
  rw [← pad_getD (zs := zs)]
  simp [putL, List.getD_eq_getElem?_getD, List.getElem?_map, List.getElem?_range h]
theorem putL_bytes {zs : List Int} (h : Bytes zs) (p k : Nat) (n : Int) : Bytes (putL zs p k n) := by
  intro z hz
  obtain ⟨j, hj, rfl⟩ := List.mem_map.1 hz
  split
  · exact byt_in _ _
  · exact getD_in (pad_bytes h) _
theorem ext128 {a b : List Int} (ha : a.length = 128) (hb : b.length = 128) (h : ∀ j, j < 128 → a.getD j 0 = b.getD j 0) : a = b := by
  apply List.ext_getElem (by omega)
  intro j h1 h2
  have := h j (by omega)
  rwa [List.getD_eq_getElem?_getD, List.getD_eq_getElem?_getD, List.getElem?_eq_getElem h1, List.getElem?_eq_getElem h2] at this
theorem putL_zero (zs : List Int) (h : zs.length ≤ 128) (p : Nat) (n : Int) : putL zs p 0 n = pad zs :=
  ext128 (putL_len _ _ _ _) (pad_len h) fun j hj => by rw [putL_getD hj, if_neg (by omega), pad_getD]
theorem putL_succ (zs : List Int) (p k : Nat) (n : Int) : putL zs p (k + 1) n = (putL zs p k n).set (p + k) (byt n k) := by
  refine ext128 (putL_len _ _ _ _) (by rw [List.length_set, putL_len]) fun j hj => ?_
  rw [putL_getD hj, List.getD_eq_getElem?_getD (l := List.set _ _ _), List.getElem?_set]
  by_cases e : p + k = j
  · subst e
    rw [if_pos rfl, if_pos (show p ≤ p + k ∧ p + k < p + (k + 1) by omega), if_pos (show p + k < (putL zs p k n).length by rw [putL_len]; exact hj), show p + k - p = k by omega]; rfl
  · rw [if_neg e, ← List.getD_eq_getElem?_getD, putL_getD hj]
    by_cases q : p ≤ j ∧ j < p + k
    · rw [if_pos q, if_pos (by omega)]
    · rw [if_neg q, if_neg (by omega)]
theorem pow_256 : (256 : Int) ^ 0 = 1 ∧ (256 : Int) ^ 1 = 256 ∧ (256 : Int) ^ 2 = 65536 ∧ (256 : Int) ^ 3 = 16777216 ∧ (256 : Int) ^ 4 = 4294967296 := by decide
theorem takeN_in {zs : List Int} (h : Bytes zs) (p : Nat) : ∀ k, 0 ≤ takeN zs p k ∧ takeN zs p k < 256 ^ k
  | 0 => by simp [takeN]
  | k + 1 => by
    have ih := takeN_in h p k
    have hb := getD_in (pad_bytes h) (p + k)
    show 0 ≤ takeN zs p k + _ * 256 ^ k ∧ takeN zs p k + _ * 256 ^ k < 256 ^ (k + 1)
    generalize (pad zs).getD (p + k) 0 = b at *
    generalize takeN zs p k = t at *
    rw [Int.pow_succ]
    generalize (256 : Int) ^ k = q at *
    have h1 : 0 ≤ b * q := Int.mul_nonneg hb.1 (by omega)
    have h2 : b * q ≤ 255 * q := Int.mul_le_mul_of_nonneg_right hb.2 (by omega)
    omega
/-- What is put is taken. -/
theorem takeN_putL {zs : List Int} {p k : Nat} {n : Int} (hk : k ≤ 4) (hp : p + k ≤ 128) (h0 : 0 ≤ n) (h1 : n < 256 ^ k) : takeN (putL zs p k n) p k = n := by
  have key : ∀ m, m ≤ k → takeN (putL zs p k n) p m = n % 256 ^ m := by
    intro m
    induction m with
    | zero => intro _; simp [takeN, Int.emod_one]
    | succ m ih =>
      intro hm
      have e := ih (by omega)
      show takeN (putL zs p k n) p m + _ * 256 ^ m = _
      rw [e, pad_getD, putL_getD (j := p + m) (by omega), if_pos (by omega), show p + m - p = m by omega]
      unfold byt
      have hm4 : m = 0 ∨ m = 1 ∨ m = 2 ∨ m = 3 := by omega
      obtain ⟨e0, e1, e2, e3, e4⟩ := pow_256
      rcases hm4 with rfl | rfl | rfl | rfl
      · rw [e0, show (256 : Int) ^ (0 + 1) = 256 from rfl]; omega
      · rw [e1, show (256 : Int) ^ (1 + 1) = 65536 from rfl]; omega
      · rw [e2, show (256 : Int) ^ (2 + 1) = 16777216 from rfl]; omega
      · rw [e3, show (256 : Int) ^ (3 + 1) = 4294967296 from rfl]; omega
  rw [key k (Nat.le_refl _)]
  exact Int.emod_eq_of_lt h0 h1
theorem takeN_putL_one {zs : List Int} {p k i : Nat} {n : Int} (hi : i < k) (hp : p + k ≤ 128) : takeN (putL zs p k n) (p + i) 1 = byt n i := by
  show 0 + (pad (putL zs p k n)).getD (p + i) 0 * 256 ^ 0 = _
  rw [pad_getD, putL_getD (j := p + i) (by omega), if_pos (by omega), show p + i - p = i by omega, pow_256.1]
  omega
theorem takeN_congr {a b : List Int} {p : Nat} : ∀ {k : Nat}, (∀ i, i < k → a.getD (p + i) 0 = b.getD (p + i) 0) → takeN a p k = takeN b p k
  | 0, _ => rfl
  | k + 1, h => by
    show takeN a p k + _ = takeN b p k + _
    rw [takeN_congr fun i hi => h i (by omega), pad_getD, pad_getD, h k (by omega)]
/-- A number's bytes are the bytes that it was taken from. -/
theorem byt_takeN {zs : List Int} (h : Bytes zs) {p k i : Nat} (hk : k ≤ 4) (hi : i < k) : byt (takeN zs p k) i = zs.getD (p + i) 0 := by
  have b0 := getD_in h (p + 0)
  have b1 := getD_in h (p + 1)
  have b2 := getD_in h (p + 2)
  have b3 := getD_in h (p + 3)
  have e1 : takeN zs p 1 = zs.getD (p + 0) 0 := by show 0 + (pad zs).getD (p + 0) 0 * 256 ^ 0 = _; rw [pad_getD, pow_256.1]; omega
  have e2 : takeN zs p 2 = takeN zs p 1 + zs.getD (p + 1) 0 * 256 := by show takeN zs p 1 + _ * 256 ^ 1 = _; rw [pad_getD, pow_256.2.1]
  have e3 : takeN zs p 3 = takeN zs p 2 + zs.getD (p + 2) 0 * 65536 := by show takeN zs p 2 + _ * 256 ^ 2 = _; rw [pad_getD, pow_256.2.2.1]
  have e4 : takeN zs p 4 = takeN zs p 3 + zs.getD (p + 3) 0 * 16777216 := by show takeN zs p 3 + _ * 256 ^ 3 = _; rw [pad_getD, pow_256.2.2.2.1]
  have hk' : k = 1 ∨ k = 2 ∨ k = 3 ∨ k = 4 := by omega
  have hi' : i = 0 ∨ i = 1 ∨ i = 2 ∨ i = 3 := by omega
  unfold byt
  rcases hi' with rfl | rfl | rfl | rfl <;> rcases hk' with rfl | rfl | rfl | rfl <;> first | omega | (simp only [pow_256]; omega)
/-- What is taken, put where it was. -/
theorem putL_back {zs : List Int} (h : Bytes zs) (hl : zs.length ≤ 128) {p k : Nat} {n : Int} (hk : k ≤ 4) (_hp : p + k ≤ 128) : putL (putL zs p k n) p k (takeN zs p k) = pad zs := by
  refine ext128 (putL_len _ _ _ _) (pad_len hl) fun j hj => ?_
  rw [putL_getD hj, putL_getD hj, pad_getD]
  by_cases q : p ≤ j ∧ j < p + k
  · rw [if_pos q, byt_takeN h hk (by omega), show p + (j - p) = j by omega]
  · rw [if_neg q, if_neg q]
theorem putL_apart {zs : List Int} {p k q l : Nat} {n m : Int} (h : p + k ≤ q ∨ q + l ≤ p) : putL (putL zs p k n) q l m = putL (putL zs q l m) p k n := by
  refine ext128 (putL_len _ _ _ _) (putL_len _ _ _ _) fun j hj => ?_
  rw [putL_getD hj, putL_getD hj, putL_getD hj, putL_getD hj]
  by_cases a : p ≤ j ∧ j < p + k
  · rw [if_pos a, if_pos a, if_neg (by omega)]
  · rw [if_neg a, if_neg a]
theorem putL_same {zs : List Int} {p k : Nat} {n m : Int} : putL (putL zs p k n) p k m = putL zs p k m := by
  refine ext128 (putL_len _ _ _ _) (putL_len _ _ _ _) fun j hj => ?_
  rw [putL_getD hj, putL_getD hj, putL_getD hj]
  by_cases a : p ≤ j ∧ j < p + k
  · rw [if_pos a, if_pos a]
  · rw [if_neg a, if_neg a, if_neg a]
end Go.Proofs.Ytcngonedcnddlaa.PackM
