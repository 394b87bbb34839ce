/- Plain mathematics of requests: kinds, what may be asked, blocks from a place on, whether two have one in common. -/
import Derived.Test.YtkjgmopgibpkjaaShapeMath
namespace Go.Proofs.Ytkjgmopgibpkjaa
namespace SplitM
set_option linter.unusedVariables false

def kWr (k : Int) : Bool := k == 2 || k == 3 || k == 5
def kBlk (k : Int) : Bool := k == 1 || k == 2 || k == 3 || k == 5
def kByt (k : Int) : Int := if k = 2 ∨ k = 3 then 128 else 0
def kBytB (k : Int) : Bool := k == 2 || k == 3
def kWhole (k : Int) : Bool := k == 4 || k == 6
def kOk (k : Int) : Bool := decide (1 ≤ k ∧ k ≤ 6)
/-- A number that stands for a kind, or none. -/
theorem kinds (k : Int) : k = 1 ∨ k = 2 ∨ k = 3 ∨ k = 4 ∨ k = 5 ∨ k = 6 ∨ ((k == 1) = false ∧ (k == 2) = false ∧ (k == 3) = false ∧ (k == 4) = false ∧ (k == 5) = false ∧ (k == 6) = false ∧ kWr k = false ∧ kBlk k = false ∧ kByt k = 0 ∧ kBytB k = false ∧ kWhole k = false ∧ (0 ≤ k → kOk k = false)) := by
  by_cases h1 : k = 1
  · exact .inl h1
  by_cases h2 : k = 2
  · exact .inr (.inl h2)
  by_cases h3 : k = 3
  · exact .inr (.inr (.inl h3))
  by_cases h4 : k = 4
  · exact .inr (.inr (.inr (.inl h4)))
  by_cases h5 : k = 5
  · exact .inr (.inr (.inr (.inr (.inl h5))))
  by_cases h6 : k = 6
  · exact .inr (.inr (.inr (.inr (.inr (.inl h6)))))
  refine .inr (.inr (.inr (.inr (.inr (.inr ?_)))))
  have d1 : (k == 1) = false := by simpa using h1
  have d2 : (k == 2) = false := by simpa using h2
  have d3 : (k == 3) = false := by simpa using h3
  have d4 : (k == 4) = false := by simpa using h4
  have d5 : (k == 5) = false := by simpa using h5
  have d6 : (k == 6) = false := by simpa using h6
  refine ⟨d1, d2, d3, d4, d5, d6, ?_, ?_, ?_, ?_, ?_, fun h0 => ?_⟩
  · unfold kWr; rw [d2, d3, d5]; rfl
  · unfold kBlk; rw [d1, d2, d3, d5]; rfl
  · unfold kByt; rw [if_neg (by omega)]
  · unfold kBytB; rw [d2, d3]; rfl
  · unfold kWhole; rw [d4, d6]; rfl
  · unfold kOk; exact decide_eq_false (by omega)

/-- At and Many are as they may be, in an array of N blocks. -/
def plB (k a m N : Int) : Bool := if kBlk k then decide (1 ≤ m ∧ m ≤ 8 ∧ 0 ≤ a ∧ a ≤ N - m) else decide (a = 0 ∧ m = 0)
/-- What Check answers. -/
def chkA (c : ShapeM.Cfg) (k a m : Int) (n : Nat) : Int :=
  if ShapeM.MayC c then (if (kOk k && plB k a m (ShapeM.blkC c)) = true then (if (n : Int) = m * kByt k then 0 else 3) else 2) else 8
theorem chkA_no {c : ShapeM.Cfg} (h : ¬ ShapeM.MayC c) (k a m : Int) (n : Nat) : chkA c k a m n = 8 := by unfold chkA; rw [if_neg h]
theorem chkA_arg {c : ShapeM.Cfg} (h : ShapeM.MayC c) {k a m : Int} (hp : (kOk k && plB k a m (ShapeM.blkC c)) = false) (n : Nat) : chkA c k a m n = 2 := by unfold chkA; rw [if_pos h, if_neg (by rw [hp]; decide)]
theorem chkA_text {c : ShapeM.Cfg} (h : ShapeM.MayC c) {k a m : Int} (hp : (kOk k && plB k a m (ShapeM.blkC c)) = true) {n : Nat} (hn : (n : Int) ≠ m * kByt k) : chkA c k a m n = 3 := by unfold chkA; rw [if_pos h, if_pos hp, if_neg hn]
theorem chkA_ok {c : ShapeM.Cfg} (h : ShapeM.MayC c) {k a m : Int} (hp : (kOk k && plB k a m (ShapeM.blkC c)) = true) {n : Nat} (hn : (n : Int) = m * kByt k) : chkA c k a m n = 0 := by unfold chkA; rw [if_pos h, if_pos hp, if_pos hn]
theorem chkA_zero {c : ShapeM.Cfg} {k a m : Int} {n : Nat} (h : chkA c k a m n = 0) : ShapeM.MayC c ∧ (kOk k && plB k a m (ShapeM.blkC c)) = true ∧ (n : Int) = m * kByt k := by
  unfold chkA at h
  split at h
  · split at h
    · split at h
      · exact ⟨by assumption, by assumption, by assumption⟩
      · exact absurd h (by decide)
    · exact absurd h (by decide)
  · exact absurd h (by decide)
/-- A request that may be lies in the array. -/
theorem plB_box {k a m N : Int} (h : plB k a m N = true) : 0 ≤ m ∧ m ≤ 8 ∧ 0 ≤ a ∧ (kBlk k = true → 1 ≤ m ∧ a + m ≤ N) ∧ (kBlk k = false → a = 0 ∧ m = 0) := by
  unfold plB at h
  cases hk : kBlk k
  · rw [hk] at h
    have q := of_decide_eq_true (p := a = 0 ∧ m = 0) h
    exact ⟨by omega, by omega, by omega, fun x => (by cases x), fun _ => q⟩
  · rw [hk] at h
    have q := of_decide_eq_true (p := 1 ≤ m ∧ m ≤ 8 ∧ 0 ≤ a ∧ a ≤ N - m) h
    exact ⟨by omega, by omega, by omega, fun _ => ⟨by omega, by omega⟩, fun x => (by cases x)⟩
theorem chkA_box {c : ShapeM.Cfg} {k a m : Int} {n : Nat} (h : chkA c k a m n = 0) : 0 ≤ m ∧ m ≤ 8 ∧ 0 ≤ a ∧ a ≤ 960 ∧ (kWr k = true → 1 ≤ m) ∧ (m = 0 → a = 0) ∧ (1 ≤ m → a + m ≤ ShapeM.blkC c) := by
  obtain ⟨h1, h2, _⟩ := chkA_zero h
  rw [Bool.and_eq_true] at h2
  obtain ⟨q0, q1, q2, q3, q4⟩ := plB_box h2.2
  have hb := ShapeM.blkC_box h1
  have w : kWr k = true → kBlk k = true := by
    unfold kWr kBlk
    intro x
    rw [Bool.or_eq_true, Bool.or_eq_true] at x
    rcases x with (x | x) | x <;> simp [x]
  cases hk : kBlk k
  · have q := q4 hk
    exact ⟨q0, q1, q2, by omega, fun x => (by have := w x; rw [hk] at this; cases this), fun _ => q.1, fun x => by omega⟩
  · have q := q3 hk
    exact ⟨q0, q1, q2, by omega, fun _ => q.1, fun x => by omega, fun _ => q.2⟩

/-- m numbers, from a on. -/
def rng (a : Int) (m : Nat) : List Int := (List.range m).map fun (i : Nat) => a + (i : Int)
theorem rng_len (a : Int) (m : Nat) : (rng a m).length = m := by simp [rng]
theorem rng_zero (a : Int) : rng a 0 = [] := rfl
theorem rng_succ (a : Int) (m : Nat) : rng a (m + 1) = rng a m ++ [a + (m : Int)] := by simp [rng, List.range_succ]
theorem rng_at {a : Int} {m i : Nat} (h : i < m) : (rng a m).getD i 0 = a + (i : Int) := by
  rw [List.getD_eq_getElem?_getD, List.getElem?_eq_getElem (by rw [rng_len]; exact h)]
  simp [rng]
theorem rng_mem {a : Int} {m : Nat} {x : Int} : x ∈ rng a m ↔ a ≤ x ∧ x < a + (m : Int) := by
  unfold rng
  rw [List.mem_map]
  constructor
  · rintro ⟨i, hi, rfl⟩
    have := List.mem_range.1 hi
    omega
  · rintro ⟨h1, h2⟩
    exact ⟨(x - a).toNat, List.mem_range.2 (by omega), by omega⟩
/-- The blocks that Blocks answers. -/
def blkL (e a m : Int) : List Int := if e = 0 then rng a m.toNat else []
theorem blkL_0 (a m : Int) : blkL 0 a m = rng a m.toNat := rfl
theorem blkL_no {e : Int} (h : e ≠ 0) (a m : Int) : blkL e a m = [] := by unfold blkL; rw [if_neg h]

/-- A number stands in both lists. -/
def hitB (l r : List Int) : Bool := decide (∃ x, x ∈ l ∧ x ∈ r)
theorem hitB_comm (l r : List Int) : hitB l r = hitB r l := by
  unfold hitB
  exact decide_eq_decide.2 ⟨fun ⟨x, h⟩ => ⟨x, h.2, h.1⟩, fun ⟨x, h⟩ => ⟨x, h.2, h.1⟩⟩
theorem hitB_rng {a b : Int} {m k : Nat} (hm : m = 0 → a = 0) (hk : k = 0 → b = 0) (ha : 0 ≤ a) (hb : 0 ≤ b) : hitB (rng a m) (rng b k) = decide (a < b + (k : Int) ∧ b < a + (m : Int)) := by
  unfold hitB
  refine decide_eq_decide.2 ⟨?_, ?_⟩
  · rintro ⟨x, h1, h2⟩
    rw [rng_mem] at h1 h2
    omega
  · rintro ⟨h1, h2⟩
    refine ⟨max a b, ?_, ?_⟩ <;> rw [rng_mem] <;> omega
end SplitM
end Go.Proofs.Ytkjgmopgibpkjaa
