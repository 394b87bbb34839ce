/- Plain mathematics of blocks put together by exclusive or (layer 3): no program in it. -/
import Derived.Test.YtldgpkaecfgagaaPackMath
namespace Go.Proofs.Ytldgpkaecfgagaa.FoldM
open PolyM (Bytes)
open PackM

/-- Exclusive or of two bytes. -/
def xr (a b : Int) : Int := ((a.toNat ^^^ b.toNat : Nat) : Int)
theorem xr_in {a b : Int} (ha : 0 ≤ a ∧ a ≤ 255) (hb : 0 ≤ b ∧ b ≤ 255) : 0 ≤ xr a b ∧ xr a b ≤ 255 := by
  have h : a.toNat ^^^ b.toNat < 2 ^ 8 := Nat.xor_lt_two_pow (by omega) (by omega)
  unfold xr
  omega
theorem xr_zero {a : Int} (h : 0 ≤ a) : xr a 0 = a := by unfold xr; simp; omega
/-- Byte j of all, put together. -/
def col (l : List (List Int)) (j : Nat) : Nat := l.foldr (fun b s => (b.getD j 0).toNat ^^^ s) 0
/-- The fold of blocks. -/
def foldL (l : List (List Int)) : List Int := (List.range 128).map fun j => (col l j : Int)
def Blk (b : List Int) : Prop := b.length = 0 ∨ b.length = 128
def Blks (l : List (List Int)) : Prop := ∀ b ∈ l, Blk b
instance (b : List Int) : Decidable (Blk b) := inferInstanceAs (Decidable (_ ∨ _))
instance (l : List (List Int)) : Decidable (Blks l) := inferInstanceAs (Decidable (∀ b ∈ l, Blk b))
/-- The error of a fold. -/
def code (l : List (List Int)) : Int := if 16 < l.length then 4 else if Blks l then 0 else 3

theorem col_nil (j : Nat) : col [] j = 0 := rfl
theorem col_cons (b : List Int) (l : List (List Int)) (j : Nat) : col (b :: l) j = (b.getD j 0).toNat ^^^ col l j := rfl
theorem col_append (a b : List (List Int)) (j : Nat) : col (a ++ b) j = col a j ^^^ col b j := by
  induction a with
  | nil => simp [col_nil]
  | cons x a ih => rw [List.cons_append, col_cons, col_cons, ih, Nat.xor_assoc]
theorem col_one (b : List Int) (j : Nat) : col [b] j = (b.getD j 0).toNat := by rw [col_cons, col_nil, Nat.xor_zero]
theorem col_lt {l : List (List Int)} (h : ∀ b ∈ l, Bytes b) (j : Nat) : col l j < 256 := by
  induction l with
  | nil => rw [col_nil]; omega
  | cons x l ih =>
    have h1 := getD_in (h x List.mem_cons_self) j
    have h2 := ih fun b hb => h b (List.mem_cons_of_mem _ hb)
    rw [col_cons]
    exact Nat.xor_lt_two_pow (n := 8) (by omega) (by omega)
theorem foldL_len (l : List (List Int)) : (foldL l).length = 128 := by simp [foldL]
theorem foldL_getD {l : List (List Int)} {j : Nat} (h : j < 128) : (foldL l).getD j 0 = (col l j : Int) := by
  simp [foldL, List.getD_eq_getElem?_getD, List.getElem?_map, List.getElem?_range h]
theorem foldL_bytes {l : List (List Int)} (h : ∀ b ∈ l, Bytes b) : Bytes (foldL l) := by
  intro z hz
  obtain ⟨j, _, rfl⟩ := List.mem_map.1 hz
  have := col_lt h j
  omega
theorem foldL_congr {a b : List (List Int)} (h : ∀ j, j < 128 → col a j = col b j) : foldL a = foldL b :=
  ext128 (foldL_len _) (foldL_len _) fun j hj => by rw [foldL_getD hj, foldL_getD hj, h j hj]
theorem foldL_nil : foldL [] = List.replicate 128 0 := by
  refine ext128 (foldL_len _) (by simp) fun j hj => ?_
  rw [foldL_getD hj, col_nil, List.getD_eq_getElem?_getD, List.getElem?_replicate, if_pos hj]; rfl
theorem foldL_one {b : List Int} (hb : Bytes b) (hl : b.length ≤ 128) : foldL [b] = pad b :=
  ext128 (foldL_len _) (pad_len hl) fun j hj => by
    have := getD_in hb j
    rw [foldL_getD hj, col_one, pad_getD]; omega

/-- A block, of which i bytes have been put to another. -/
def mid (acc b : List Int) (i : Nat) : List Int := (List.range 128).map fun j => if j < i then xr (acc.getD j 0) (b.getD j 0) else acc.getD j 0
theorem mid_len (acc b : List Int) (i : Nat) : (mid acc b i).length = 128 := by simp [mid]
theorem mid_getD {acc b : List Int} {i j : Nat} (h : j < 128) : (mid acc b i).getD j 0 = if j < i then xr (acc.getD j 0) (b.getD j 0) else acc.getD j 0 := by
  simp [mid, List.getD_eq_getElem?_getD, List.getElem?_map, List.getElem?_range h]
theorem mid_zero {acc : List Int} (h : acc.length = 128) (b : List Int) : mid acc b 0 = acc :=
  ext128 (mid_len _ _ _) h fun j hj => by rw [mid_getD hj, if_neg (by omega)]
theorem mid_at {acc b : List Int} {i : Nat} (h : i < 128) : (mid acc b i).getD i 0 = acc.getD i 0 := by rw [mid_getD h, if_neg (by omega)]
theorem getD_set {l : List Int} {i j : Nat} {v : Int} (h : i < l.length) : (l.set i v).getD j 0 = if i = j then v else l.getD j 0 := by
  rw [List.getD_eq_getElem?_getD, List.getElem?_set]
  by_cases e : i = j
  · subst e; rw [if_pos rfl, if_pos h, if_pos rfl]; rfl
  · rw [if_neg e, if_neg e, List.getD_eq_getElem?_getD]
theorem mid_succ {acc b : List Int} {i : Nat} (h : i < 128) : mid acc b (i + 1) = (mid acc b i).set i (xr (acc.getD i 0) (b.getD i 0)) := by
  refine ext128 (mid_len _ _ _) (by rw [List.length_set, mid_len]) fun j hj => ?_
  rw [mid_getD hj, getD_set (by rw [mid_len]; exact h), mid_getD hj]
  by_cases e : i = j
  · subst e; rw [if_pos (by omega), if_pos rfl]
  · rw [if_neg e]
    by_cases q : j < i
    · rw [if_pos (by omega), if_pos q]
    · rw [if_neg (by omega), if_neg q]
theorem mid_bytes {acc b : List Int} (ha : Bytes acc) (hb : Bytes b) (i : Nat) : Bytes (mid acc b i) := by
  intro z hz
  obtain ⟨j, _, rfl⟩ := List.mem_map.1 hz
  split
  · exact xr_in (getD_in ha j) (getD_in hb j)
  · exact getD_in ha j
theorem mid_all {acc b : List Int} (ha : Bytes acc) {i : Nat} (h : b.length ≤ i) : mid acc b i = mid acc b 128 :=
  ext128 (mid_len _ _ _) (mid_len _ _ _) fun j hj => by
    rw [mid_getD hj, mid_getD hj, if_pos hj]
    by_cases q : j < i
    · rw [if_pos q]
    · rw [if_neg q, show b.getD j 0 = 0 by rw [List.getD_eq_getElem?_getD, List.getElem?_eq_none (by omega)]; rfl, xr_zero (getD_in ha j).1]
theorem mid_nil {acc : List Int} (h : acc.length = 128) (ha : Bytes acc) : mid acc [] 128 = acc := by rw [← mid_all ha (i := 0) (by simp), mid_zero h]
/-- One block more. -/
theorem mid_fold (l : List (List Int)) (b : List Int) : mid (foldL l) b 128 = foldL (l ++ [b]) :=
  ext128 (mid_len _ _ _) (foldL_len _) fun j hj => by
    rw [mid_getD hj, if_pos hj, foldL_getD hj, foldL_getD hj, col_append, col_one]
    unfold xr
    rw [Int.toNat_natCast]
theorem fold_step {l : List (List Int)} {b : List Int} (hl : ∀ x ∈ l, Bytes x) (_h : Blk b) : mid (foldL l) b b.length = foldL (l ++ [b]) := by
  rw [mid_all (foldL_bytes hl) (Nat.le_refl _), mid_fold]

theorem take_snocL {α : Type} {l : List α} {i : Nat} {x : α} (h : l[i]? = some x) : l.take (i + 1) = l.take i ++ [x] := by
  obtain ⟨hi, e⟩ := List.getElem?_eq_some_iff.1 h
  rw [List.take_succ_eq_append_getElem hi, e]

/-! ### What follows -/
theorem col_set {l : List (List Int)} {i : Nat} {x v : List Int} (h : l[i]? = some x) (j : Nat) : col (l.set i v) j = col l j ^^^ (x.getD j 0).toNat ^^^ (v.getD j 0).toNat := by
  induction l generalizing i with
  | nil => simp at h
  | cons y l ih =>
    cases i with
    | zero =>
      simp only [List.getElem?_cons_zero, Option.some.injEq] at h
      subst h
      rw [List.set_cons_zero, col_cons, col_cons]
      generalize (y.getD j 0).toNat = a
      generalize (v.getD j 0).toNat = b
      rw [show a ^^^ col l j ^^^ a ^^^ b = (a ^^^ a) ^^^ (b ^^^ col l j) by ac_rfl, Nat.xor_self, Nat.zero_xor]
    | succ i =>
      rw [List.set_cons_succ, col_cons, col_cons, ih (by simpa using h)]
      ac_rfl
theorem col_back {l : List (List Int)} {p : Nat} {x : List Int} (h : l[p]? = some x) (j : Nat) : col (l.eraseIdx p) j = col l j ^^^ (x.getD j 0).toNat := by
  induction l generalizing p with
  | nil => simp at h
  | cons y l ih =>
    cases p with
    | zero =>
      simp only [List.getElem?_cons_zero, Option.some.injEq] at h
      subst h
      rw [List.eraseIdx_cons_zero, col_cons]
      generalize (y.getD j 0).toNat = a
      rw [show a ^^^ col l j ^^^ a = (a ^^^ a) ^^^ col l j by ac_rfl, Nat.xor_self, Nat.zero_xor]
    | succ p =>
      rw [List.eraseIdx_cons_succ, col_cons, col_cons, ih (by simpa using h), Nat.xor_assoc]
/-- Each of some blocks is the fold of all others and the fold of all. -/
theorem fold_back {l : List (List Int)} {p : Nat} {x : List Int} (h : l[p]? = some x) (hb : Bytes x) {j : Nat} (hj : j < 128) : (foldL (l.eraseIdx p ++ [foldL l])).getD j 0 = x.getD j 0 := by
  have := getD_in hb j
  rw [foldL_getD hj, col_append, col_one, foldL_getD hj, col_back h, Int.toNat_natCast]
  rw [show col l j ^^^ (x.getD j 0).toNat ^^^ col l j = (col l j ^^^ col l j) ^^^ (x.getD j 0).toNat by ac_rfl, Nat.xor_self, Nat.zero_xor]
  omega
theorem fold_order {l : List (List Int)} {a b : Nat} {x y : List Int} (ha : l[a]? = some x) (hb : l[b]? = some y) : foldL ((l.set a y).set b x) = foldL l := by
  refine foldL_congr fun j hj => ?_
  have h2 : (l.set a y)[b]? = some y := by
    rw [List.getElem?_set]
    obtain ⟨hi, _⟩ := List.getElem?_eq_some_iff.1 ha
    by_cases e : a = b
    · rw [if_pos e, if_pos hi]
    · rw [if_neg e, hb]
  rw [col_set h2, col_set ha]
  generalize (x.getD j 0).toNat = u
  generalize (y.getD j 0).toNat = v
  rw [show col l j ^^^ u ^^^ v ^^^ v ^^^ u = col l j ^^^ (u ^^^ u) ^^^ (v ^^^ v) by ac_rfl, Nat.xor_self, Nat.xor_self, Nat.xor_zero, Nat.xor_zero]
theorem blks_order {l : List (List Int)} {a b : Nat} {x y : List Int} (ha : l[a]? = some x) (hb : l[b]? = some y) : Blks ((l.set a y).set b x) ↔ Blks l := by
  have key : ∀ {l : List (List Int)} {x y : List Int}, l[a]? = some x → l[b]? = some y → Blks l → Blks ((l.set a y).set b x) := by
    intro l x y ha hb h z hz
    rcases List.mem_or_eq_of_mem_set hz with hz | rfl
    · rcases List.mem_or_eq_of_mem_set hz with hz | rfl
      · exact h z hz
      · exact h _ (List.mem_of_getElem? hb)
    · exact h _ (List.mem_of_getElem? ha)
  refine ⟨fun h => ?_, key ha hb⟩
  obtain ⟨hai, _⟩ := List.getElem?_eq_some_iff.1 ha
  obtain ⟨hbi, _⟩ := List.getElem?_eq_some_iff.1 hb
  have e1 : ((l.set a y).set b x)[a]? = some y := by
    rw [List.getElem?_set, List.length_set, List.getElem?_set]
    by_cases e : b = a
    · subst e; rw [if_pos rfl, if_pos hbi]; rw [ha] at hb; exact hb
    · rw [if_neg e, if_pos rfl, if_pos hai]
  have e2 : ((l.set a y).set b x)[b]? = some x := by
    rw [List.getElem?_set, List.length_set, if_pos rfl, if_pos hbi]
  have := key e1 e2 h
  have hback : ((((l.set a y).set b x).set a x).set b y) = l := by
    apply List.ext_getElem?
    intro i
    simp only [List.getElem?_set, List.length_set]
    by_cases e3 : b = i
    · subst e3; rw [if_pos rfl, if_pos hbi, hb]
    · rw [if_neg e3]
      by_cases e4 : a = i
      · subst e4; rw [if_pos rfl, if_pos hai, ha]
      · rw [if_neg e4, if_neg e3, if_neg e4]
  rwa [hback] at this
theorem code_order {l : List (List Int)} {a b : Nat} {x y : List Int} (ha : l[a]? = some x) (hb : l[b]? = some y) : code ((l.set a y).set b x) = code l := by
  unfold code
  simp only [List.length_set, blks_order ha hb]
theorem fold_parts (a b : List (List Int)) : foldL [foldL a, foldL b] = foldL (a ++ b) :=
  foldL_congr fun j hj => by rw [col_cons, col_one, foldL_getD hj, foldL_getD hj, col_append, Int.toNat_natCast, Int.toNat_natCast]
theorem fold_twice (l : List (List Int)) (b : List Int) : foldL (l ++ [b, b]) = foldL l :=
  foldL_congr fun j _ => by rw [col_append, col_cons, col_one, Nat.xor_self, Nat.xor_zero]
theorem fold_none (l : List (List Int)) : foldL (l ++ [[]]) = foldL l :=
  foldL_congr fun j _ => by rw [col_append, col_one]; exact Nat.xor_zero _
theorem blks_append {a b : List (List Int)} : Blks (a ++ b) ↔ Blks a ∧ Blks b := by
  unfold Blks
  simp only [List.mem_append]
  exact ⟨fun h => ⟨fun x hx => h x (.inl hx), fun x hx => h x (.inr hx)⟩, fun h x hx => hx.elim (h.1 x) (h.2 x)⟩
theorem code_zero {l : List (List Int)} : code l = 0 ↔ l.length ≤ 16 ∧ Blks l := by
  unfold code
  split
  · simp; omega
  · split
    · simp_all
    · simp_all
theorem code_or (l : List (List Int)) : code l = 0 ∧ l.length ≤ 16 ∧ Blks l ∨ code l = 3 ∧ l.length ≤ 16 ∧ ¬ Blks l ∨ code l = 4 ∧ 16 < l.length := by
  unfold code
  split
  · exact .inr (.inr ⟨rfl, by assumption⟩)
  · split
    · exact .inl ⟨rfl, by omega, by assumption⟩
    · exact .inr (.inl ⟨rfl, by omega, by assumption⟩)
/-- Where one byte of one block is turned. -/
theorem fold_turn {l : List (List Int)} {p i : Nat} {x : List Int} (h : l[p]? = some x) (hl : x.length = 128) (_hB : Bytes x) (_hall : ∀ b ∈ l, Bytes b) (v : Int) (_hv : 0 ≤ v ∧ v ≤ 255) (hi : i < 128) {j : Nat} (hj : j < 128) :
    (foldL (l.set p (x.set i (xr (x.getD i 0) v)))).getD j 0 = if j = i then xr ((foldL l).getD i 0) v else (foldL l).getD j 0 := by
  rw [foldL_getD hj, foldL_getD hj, foldL_getD hi, col_set h, getD_set (by omega)]
  by_cases e : i = j
  · subst e
    rw [if_pos rfl, if_pos rfl]
    unfold xr
    rw [Int.toNat_natCast, Int.toNat_natCast]
    generalize (x.getD i 0).toNat = u
    rw [show col l i ^^^ u ^^^ (u ^^^ v.toNat) = col l i ^^^ v.toNat ^^^ (u ^^^ u) by ac_rfl, Nat.xor_self, Nat.xor_zero]
  · rw [if_neg e, if_neg (by omega), Nat.xor_assoc, Nat.xor_self, Nat.xor_zero]
end Go.Proofs.Ytldgpkaecfgagaa.FoldM
