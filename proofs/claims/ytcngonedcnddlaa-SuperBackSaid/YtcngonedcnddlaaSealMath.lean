/- Blocks that are made of numbers in a row, with the sum of all bytes ahead of it at their end; what turning bytes does to the sum. No program in it. -/
import Derived.Test.YtcngonedcnddlaaPackMath
import Derived.Test.YtcngonedcnddlaaPolyMath
namespace Go.Proofs.Ytcngonedcnddlaa.SealM
open PolyM PackM
set_option linter.unusedVariables false

theorem takeN_other {zs : List Int} {p s q m : Nat} {n : Int} (h : q + m ≤ p ∨ p + s ≤ q) (hq : q + m ≤ 128) : takeN (putL zs p s n) q m = takeN zs q m :=
  takeN_congr fun i hi => by rw [putL_getD (by omega), if_neg (by omega)]

/-- The block with the first n of some numbers, each at its place (where, how many bytes). -/
def chain (rs : List (Nat × Nat)) (vs : List Int) : Nat → List Int
  | 0 => []
  | k + 1 => putL (chain rs vs k) (rs.getD k (0, 0)).1 (rs.getD k (0, 0)).2 (vs.getD k 0)
/-- The places go up, share no byte, and lie ahead of the sum. -/
def Lay (rs : List (Nat × Nat)) : Prop :=
  (∀ m, m < rs.length → ∀ k, k < m → (rs.getD k (0, 0)).1 + (rs.getD k (0, 0)).2 ≤ (rs.getD m (0, 0)).1) ∧
  ∀ k, k < rs.length → 1 ≤ (rs.getD k (0, 0)).2 ∧ (rs.getD k (0, 0)).2 ≤ 4 ∧ (rs.getD k (0, 0)).1 + (rs.getD k (0, 0)).2 ≤ 124
theorem chain_len (rs : List (Nat × Nat)) (vs : List Int) : ∀ {n : Nat}, 0 < n → (chain rs vs n).length = 128
  | k + 1, _ => putL_len _ _ _ _
theorem chain_bytes (rs : List (Nat × Nat)) (vs : List Int) : ∀ n, Bytes (chain rs vs n)
  | 0 => by intro z hz; cases hz
  | k + 1 => putL_bytes (chain_bytes rs vs k) _ _ _
theorem chain_at {rs : List (Nat × Nat)} {vs : List Int} (hL : Lay rs) {j k : Nat} (hp : (rs.getD k (0, 0)).1 ≤ j) (hs : j < (rs.getD k (0, 0)).1 + (rs.getD k (0, 0)).2) :
    ∀ n, k < n → n ≤ rs.length → (chain rs vs n).getD j 0 = byt (vs.getD k 0) (j - (rs.getD k (0, 0)).1)
  | 0, h, _ => by omega
  | n + 1, h, hn => by
    have b := hL.2 k (by omega)
    show (putL _ _ _ _).getD j 0 = _
    rw [putL_getD (by omega)]
    by_cases e : k = n
    · subst e; rw [if_pos ⟨hp, hs⟩]
    · have a := hL.1 n (by omega) k (by omega)
      rw [if_neg (by omega), chain_at hL hp hs n (by omega) (by omega)]
theorem chain_out {rs : List (Nat × Nat)} {vs : List Int} {j : Nat} (hj : j < 128) : ∀ n, (∀ k, k < n → j < (rs.getD k (0, 0)).1 ∨ (rs.getD k (0, 0)).1 + (rs.getD k (0, 0)).2 ≤ j) → (chain rs vs n).getD j 0 = 0
  | 0, _ => rfl
  | n + 1, h => by
    show (putL _ _ _ _).getD j 0 = _
    have := h n (by omega)
    rw [putL_getD hj, if_neg (by omega), chain_out hj n fun k hk => h k (by omega)]
theorem chain_take {rs : List (Nat × Nat)} {vs : List Int} (hL : Lay rs) {k : Nat} (h0 : 0 ≤ vs.getD k 0) (h1 : vs.getD k 0 < 256 ^ (rs.getD k (0, 0)).2) :
    ∀ n, k < n → n ≤ rs.length → takeN (chain rs vs n) (rs.getD k (0, 0)).1 (rs.getD k (0, 0)).2 = vs.getD k 0
  | 0, h, _ => by omega
  | n + 1, h, hn => by
    have b := hL.2 k (by omega)
    show takeN (putL _ _ _ _) _ _ = _
    by_cases e : k = n
    · subst e; exact takeN_putL (by omega) (by omega) h0 h1
    · have a := hL.1 n (by omega) k (by omega)
      rw [takeN_other (by omega) (by omega), chain_take hL h0 h1 n (by omega) (by omega)]

/-- The block with the sum at its end. -/
def sealL (zs : List Int) : List Int := putL zs 124 4 (overI 0 (zs.take 124))
/-- A block whose end is the sum of all ahead of it. -/
def Sealed (zs : List Int) : Prop := takeN zs 124 4 = overI 0 (zs.take 124)
theorem sealL_len (zs : List Int) : (sealL zs).length = 128 := putL_len _ _ _ _
theorem sealL_bytes {zs : List Int} (h : Bytes zs) : Bytes (sealL zs) := putL_bytes h _ _ _
theorem sealL_head {zs : List Int} (h : zs.length = 128) : (sealL zs).take 124 = zs.take 124 := by
  apply List.ext_getElem?
  intro j
  rw [List.getElem?_take, List.getElem?_take]
  split
  · rename_i q
    have := putL_getD (zs := zs) (p := 124) (k := 4) (n := overI 0 (zs.take 124)) (j := j) (by omega)
    rw [if_neg (by omega), List.getD_eq_getElem?_getD, List.getD_eq_getElem?_getD] at this
    have l1 : j < (sealL zs).length := by rw [sealL_len]; omega
    have l2 : j < zs.length := by omega
    show (sealL zs)[j]? = _
    have t2 : (sealL zs)[j]?.getD 0 = zs[j]?.getD 0 := this
    rw [List.getElem?_eq_getElem l1, List.getElem?_eq_getElem l2] at t2 ⊢
    exact congrArg some t2
  · rfl
theorem sum_in (zs : List Int) : 0 ≤ overI 0 zs ∧ overI 0 zs < 256 ^ 4 := by
  have := overI_in 0 zs
  rw [pow_256.2.2.2.2]; omega
theorem sealL_sealed {zs : List Int} (h : zs.length = 128) : Sealed (sealL zs) := by
  unfold Sealed
  rw [sealL_head h]
  exact takeN_putL (by omega) (by omega) (sum_in _).1 (sum_in _).2
theorem sealL_take {zs : List Int} {p k : Nat} (h : p + k ≤ 124) : takeN (sealL zs) p k = takeN zs p k := takeN_other (.inl h) (by omega)

/-! ### Bytes turned -/
def xorI (a b : Int) : Int := ((a.toNat ^^^ b.toNat : Nat) : Int)
theorem xorI_in {a b : Int} (h0 : 0 ≤ a) (h1 : a ≤ 255) (k0 : 0 ≤ b) (k1 : b ≤ 255) : 0 ≤ xorI a b ∧ xorI a b ≤ 255 := by
  have : a.toNat ^^^ b.toNat < 2 ^ 8 := Nat.xor_lt_two_pow (by omega) (by omega)
  unfold xorI
  omega
theorem xorI_ne {a b : Int} (h0 : 0 ≤ a) (k0 : 0 ≤ b) (e : xorI a b = a) : b = 0 := by
  unfold xorI at e
  have h : a.toNat ^^^ b.toNat = a.toNat := by omega
  have := congrArg (a.toNat ^^^ ·) h
  simp only [← Nat.xor_assoc, Nat.xor_self, Nat.zero_xor] at this
  omega
/-- The bytes, k of those from place p on turned. -/
def turned (xs bs : List Int) (p k j : Nat) : Int := if p ≤ j ∧ j < p + k then xorI (xs.getD j 0) (bs.getD (j - p) 0) else xs.getD j 0
theorem turned_zero (xs bs : List Int) (p j : Nat) : turned xs bs p 0 j = xs.getD j 0 := by unfold turned; rw [if_neg (by omega)]
theorem turned_here (xs bs : List Int) (p k : Nat) : turned xs bs p k (p + k) = xs.getD (p + k) 0 := by unfold turned; rw [if_neg (by omega)]
theorem turned_succ (xs bs : List Int) (p k : Nat) : turned xs bs p (k + 1) (p + k) = xorI (xs.getD (p + k) 0) (bs.getD k 0) := by
  unfold turned; rw [if_pos (by omega), show p + k - p = k by omega]
theorem turned_other (xs bs : List Int) (p k j : Nat) (h : j ≠ p + k) : turned xs bs p (k + 1) j = turned xs bs p k j := by
  unfold turned
  by_cases q : p ≤ j ∧ j < p + k
  · rw [if_pos q, if_pos (by omega)]
  · rw [if_neg q, if_neg (by omega)]
theorem getD_lt {l : List Int} {j : Nat} (h : j < l.length) : l[j]? = some (l.getD j 0) := by rw [List.getD_eq_getElem?_getD, List.getElem?_eq_getElem h]; rfl
theorem turned_list {xs : List Int} {x y z v : Int} {p : Nat} (h : p + 4 ≤ xs.length) :
    xs = xs.take p ++ ([xs.getD p 0, xs.getD (p + 1) 0, xs.getD (p + 2) 0, xs.getD (p + 3) 0] ++ xs.drop (p + 4)) ∧
    (List.range xs.length).map (turned xs [x, y, z, v] p 4) = xs.take p ++ ([xorI (xs.getD p 0) x, xorI (xs.getD (p + 1) 0) y, xorI (xs.getD (p + 2) 0) z, xorI (xs.getD (p + 3) 0) v] ++ xs.drop (p + 4)) := by
  have key : ∀ (f : Nat → Int) (q : List Int), q.length = 4 → (∀ j, j < p → f j = xs.getD j 0) → (∀ i, i < 4 → f (p + i) = q.getD i 0) → (∀ j, p + 4 ≤ j → f j = xs.getD j 0) →
      (List.range xs.length).map f = xs.take p ++ (q ++ xs.drop (p + 4)) := by
    intro f q hq h1 h2 h3
    apply List.ext_getElem?
    intro j
    rw [List.getElem?_map]
    rcases Nat.lt_or_ge j xs.length with hj | hj
    · rw [List.getElem?_range hj, List.getElem?_append, List.length_take, Nat.min_eq_left (by omega)]
      by_cases hp : j < p
      · rw [if_pos hp, List.getElem?_take, if_pos hp, getD_lt hj, Option.map_some, h1 j hp]
      · rw [if_neg hp, List.getElem?_append, hq]
        by_cases h4 : j - p < 4
        · rw [if_pos h4, getD_lt (by omega), Option.map_some, ← h2 _ h4, show p + (j - p) = j by omega]
        · rw [if_neg h4, List.getElem?_drop, show p + 4 + (j - p - 4) = j by omega, getD_lt hj, Option.map_some, h3 j (by omega)]
    · rw [List.getElem?_eq_none (by simpa using hj), List.getElem?_eq_none (by simp; omega)]
      rfl
  constructor
  · rw [← key (fun j => xs.getD j 0) _ rfl (fun _ _ => rfl) (fun i hi => ?_) (fun _ _ => rfl)]
    · apply List.ext_getElem?
      intro j
      rw [List.getElem?_map]
      rcases Nat.lt_or_ge j xs.length with hj | hj
      · rw [List.getElem?_range hj, getD_lt hj]; rfl
      · rw [List.getElem?_eq_none hj, List.getElem?_eq_none (by simpa using hj)]; rfl
    · have : i = 0 ∨ i = 1 ∨ i = 2 ∨ i = 3 := by omega
      rcases this with rfl | rfl | rfl | rfl <;> rfl
  · refine key _ _ rfl (fun j hj => ?_) (fun i hi => ?_) (fun j hj => ?_)
    · unfold turned; rw [if_neg (by omega)]
    · have : i = 0 ∨ i = 1 ∨ i = 2 ∨ i = 3 := by omega
      unfold turned
      rw [if_pos (by omega), show p + i - p = i by omega]
      rcases this with rfl | rfl | rfl | rfl <;> rfl
    · unfold turned; rw [if_neg (by omega)]

theorem turned_sum {xs : List Int} {x y z v : Int} {p : Nat} (h : p + 4 ≤ xs.length) (hB : Bytes xs) (hb : Bytes [x, y, z, v]) (hne : ¬ (x = 0 ∧ y = 0 ∧ z = 0 ∧ v = 0)) :
    overI 0 ((List.range xs.length).map (turned xs [x, y, z, v] p 4)) ≠ overI 0 xs := by
  obtain ⟨e1, e2⟩ := turned_list (x := x) (y := y) (z := z) (v := v) h
  rw [e2]
  conv => rhs; rw [e1]
  have b0 := getD_in hB p
  have b1 := getD_in hB (p + 1)
  have b2 := getD_in hB (p + 2)
  have b3 := getD_in hB (p + 3)
  have q0 := hb.cons; have q1 := q0.2.2.cons; have q2 := q1.2.2.cons; have q3 := q2.2.2.cons
  refine overI_turned _ _ _ _ _ _ _ _ _ _ (fun j hj => hB _ (List.mem_of_mem_take hj)) (fun j hj => hB _ (List.mem_of_mem_drop hj)) ?_ ?_ ?_
  · intro j hj
    simp only [List.mem_cons, List.not_mem_nil, or_false] at hj
    rcases hj with rfl | rfl | rfl | rfl
    · exact xorI_in b0.1 b0.2 q0.1 q0.2.1
    · exact xorI_in b1.1 b1.2 q1.1 q1.2.1
    · exact xorI_in b2.1 b2.2 q2.1 q2.2.1
    · exact xorI_in b3.1 b3.2 q3.1 q3.2.1
  · intro j hj
    simp only [List.mem_cons, List.not_mem_nil, or_false] at hj
    rcases hj with rfl | rfl | rfl | rfl <;> assumption
  · intro e
    injection e with e0 e
    injection e with e1 e
    injection e with e2 e
    injection e with e3 _
    exact hne ⟨xorI_ne b0.1 q0.1 e0, xorI_ne b1.1 q1.1 e1, xorI_ne b2.1 q2.1 e2, xorI_ne b3.1 q3.1 e3⟩

/-- The block with its bytes turned. -/
def turnL (xs bs : List Int) (p k : Nat) : List Int := (List.range 128).map (turned xs bs p k)
theorem turnL_len (xs bs : List Int) (p k : Nat) : (turnL xs bs p k).length = 128 := by simp [turnL]
theorem turnL_getD {xs bs : List Int} {p k j : Nat} (h : j < 128) : (turnL xs bs p k).getD j 0 = turned xs bs p k j := by
  simp [turnL, List.getD_eq_getElem?_getD, List.getElem?_map, List.getElem?_range h]
theorem turnL_zero {xs : List Int} (h : xs.length = 128) (bs : List Int) (p : Nat) : turnL xs bs p 0 = xs :=
  ext128 (turnL_len _ _ _ _) h fun j hj => by rw [turnL_getD hj, turned_zero]
theorem turnL_succ (xs bs : List Int) (p k : Nat) : turnL xs bs p (k + 1) = (turnL xs bs p k).set (p + k) (xorI (xs.getD (p + k) 0) (bs.getD k 0)) := by
  refine ext128 (turnL_len _ _ _ _) (by rw [List.length_set, turnL_len]) fun j hj => ?_
  rw [turnL_getD hj, List.getD_eq_getElem?_getD (l := List.set _ _ _), List.getElem?_set]
  by_cases e : p + k = j
  · subst e
    rw [if_pos rfl, if_pos (by rw [turnL_len]; exact hj), turned_succ]; rfl
  · rw [if_neg e, ← List.getD_eq_getElem?_getD, turnL_getD hj, turned_other _ _ _ _ _ (fun q => e q.symm)]
theorem turnL_bytes {xs bs : List Int} (h : Bytes xs) (hb : Bytes bs) (p k : Nat) : Bytes (turnL xs bs p k) := by
  intro z hz
  obtain ⟨j, hj, rfl⟩ := List.mem_map.1 hz
  unfold turned
  split
  · exact xorI_in (getD_in h j).1 (getD_in h j).2 (getD_in hb _).1 (getD_in hb _).2
  · exact getD_in h j
/-- A SEALED BLOCK, OF WHICH UP TO FOUR BYTES SIDE BY SIDE ARE TURNED, ALL AHEAD OF THE SUM, OR ALL ITS OWN, IS SEALED NO MORE. -/
theorem sealed_turned {xs : List Int} {x y z v : Int} {p : Nat} (hl : xs.length = 128) (hB : Bytes xs) (hb : Bytes [x, y, z, v]) (hne : ¬ (x = 0 ∧ y = 0 ∧ z = 0 ∧ v = 0)) (hS : Sealed xs) (hp : p ≤ 120 ∨ p = 124) :
    ¬ Sealed (turnL xs [x, y, z, v] p 4) := by
  intro h
  unfold Sealed at *
  rcases hp with hp | rfl
  · have e1 : takeN (turnL xs [x, y, z, v] p 4) 124 4 = takeN xs 124 4 := takeN_congr fun i hi => by
      rw [turnL_getD (by omega)]; unfold turned; rw [if_neg (by omega)]
    have l1 : (xs.take 124).length = 124 := by simp; omega
    have e2 : (turnL xs [x, y, z, v] p 4).take 124 = (List.range (xs.take 124).length).map (turned (xs.take 124) [x, y, z, v] p 4) := by
      apply List.ext_getElem?
      intro j
      rw [l1, List.getElem?_take, List.getElem?_map]
      by_cases hj : j < 124
      · rw [if_pos hj, List.getElem?_range hj, getD_lt (by rw [turnL_len]; omega), turnL_getD (by omega)]
        have : (xs.take 124).getD j 0 = xs.getD j 0 := by simp [List.getD_eq_getElem?_getD, hj]
        show some (turned xs [x, y, z, v] p 4 j) = some (turned (xs.take 124) [x, y, z, v] p 4 j)
        unfold turned
        rw [this]
      · rw [if_neg hj, List.getElem?_eq_none (by simpa using hj)]; rfl
    rw [e1, e2, hS] at h
    exact turned_sum (xs := xs.take 124) (p := p) (by omega) (fun j hj => hB j (List.mem_of_mem_take hj)) hb hne h.symm
  · have e2 : (turnL xs [x, y, z, v] 124 4).take 124 = xs.take 124 := by
      apply List.ext_getElem?
      intro j
      rw [List.getElem?_take, List.getElem?_take]
      split
      · rename_i q
        rw [getD_lt (by rw [turnL_len]; omega), turnL_getD (by omega), getD_lt (l := xs) (by omega)]
        unfold turned
        rw [if_neg (by omega)]
      · rfl
    rw [e2, ← hS] at h
    have one : ∀ i, i < 4 → xorI (xs.getD (124 + i) 0) ([x, y, z, v].getD i 0) = xs.getD (124 + i) 0 := by
      intro i hi
      have a := byt_takeN (turnL_bytes hB hb 124 4) (p := 124) (k := 4) (by omega) hi
      rw [h, byt_takeN hB (by omega) hi, turnL_getD (by omega)] at a
      unfold turned at a
      rw [if_pos (by omega), show 124 + i - 124 = i by omega] at a
      exact a.symm
    have q0 := hb.cons; have q1 := q0.2.2.cons; have q2 := q1.2.2.cons; have q3 := q2.2.2.cons
    exact hne ⟨xorI_ne (getD_in hB _).1 q0.1 (one 0 (by omega)), xorI_ne (getD_in hB _).1 q1.1 (one 1 (by omega)), xorI_ne (getD_in hB _).1 q2.1 (one 2 (by omega)), xorI_ne (getD_in hB _).1 q3.1 (one 3 (by omega))⟩
end Go.Proofs.Ytcngonedcnddlaa.SealM
