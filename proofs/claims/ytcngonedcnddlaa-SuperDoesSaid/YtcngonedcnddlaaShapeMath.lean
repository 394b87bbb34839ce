/- Configs as numbers (layer 6): which may be, and what follows. No program in it. -/
import Derived.Test.YtcngonedcnddlaaBase
namespace Go.Proofs.Ytcngonedcnddlaa.ShapeM
open Go.Proofs.Ytcngonedcnddlaa

/-- A config: its six numbers. -/
structure Cfg where
  id : Int
  mem : Int
  chunk : Int
  rows : Int
  log : Int
  heads : Int

/-- A config may be. -/
def MayC (c : Cfg) : Prop := 3 ≤ c.mem ∧ c.mem ≤ 16 ∧ 1 ≤ c.chunk ∧ c.chunk ≤ 8 ∧ 1 ≤ c.rows ∧ c.rows ≤ 8 ∧ 2 ≤ c.heads ∧ c.heads ≤ 8 ∧ (c.mem + 1) * (c.heads + 1) ≤ c.log ∧ c.log ≤ 255
instance (c : Cfg) : Decidable (MayC c) := by unfold MayC; infer_instance
/-- Check's error. -/
def chkC (c : Cfg) : Int := if MayC c then 0 else 8
theorem chkC_may {c : Cfg} (h : MayC c) : chkC c = 0 := by unfold chkC; rw [if_pos h]
theorem chkC_not {c : Cfg} (h : ¬ MayC c) : chkC c = 8 := by unfold chkC; rw [if_neg h]
/-- The stripes. -/
def strC (c : Cfg) : Int := c.chunk * c.rows
/-- The blocks. -/
def blkC (c : Cfg) : Int := (c.mem - 1) * strC c
/-- Its numbers are ints. -/
structure Wide (c : Cfg) : Prop where
  id : (Lit.int .u32 c.id).wf = true
  mem : (Lit.int .i64 c.mem).wf = true
  chunk : (Lit.int .i64 c.chunk).wf = true
  rows : (Lit.int .i64 c.rows).wf = true
  log : (Lit.int .i64 c.log).wf = true
  heads : (Lit.int .i64 c.heads).wf = true

theorem mul_box {a b x y p q : Int} (h0 : 0 ≤ p) (h1 : p ≤ a) (h2 : a ≤ x) (h3 : 0 ≤ q) (h4 : q ≤ b) (h5 : b ≤ y) : p * q ≤ a * b ∧ a * b ≤ x * y :=
  ⟨Int.mul_le_mul h1 h4 h3 (by omega), Int.mul_le_mul h2 h5 (by omega) (by omega)⟩
theorem strC_box {c : Cfg} (h : MayC c) : 1 ≤ strC c ∧ strC c ≤ 64 := by
  obtain ⟨_, _, h3, h4, h5, h6, _⟩ := h
  have := mul_box (a := c.chunk) (b := c.rows) (x := 8) (y := 8) (p := 1) (q := 1) (by omega) h3 h4 (by omega) h5 h6
  unfold strC
  omega
theorem blkC_box {c : Cfg} (h : MayC c) : 2 ≤ blkC c ∧ blkC c ≤ 960 := by
  have hs := strC_box h
  obtain ⟨h1, h2, _⟩ := h
  have := mul_box (a := c.mem - 1) (b := strC c) (x := 15) (y := 64) (p := 2) (q := 1) (by omega) (by omega) (by omega) (by omega) (by omega) (by omega)
  unfold blkC
  omega
theorem log_box {c : Cfg} (h : MayC c) : 12 ≤ c.log ∧ c.log ≤ 255 := by
  obtain ⟨h1, h2, _, _, _, _, h7, h8, h9, h10⟩ := h
  have := mul_box (a := c.mem + 1) (b := c.heads + 1) (x := 17) (y := 9) (p := 4) (q := 3) (by omega) (by omega) (by omega) (by omega) (by omega) (by omega)
  omega

/-- Two configs with the same stripes, blocks, journal, heads and chunk are alike but for their ids. -/
theorem apart {c o : Cfg} (hc : MayC c) (ho : MayC o) : (strC c = strC o ∧ blkC c = blkC o ∧ c.log + 1 = o.log + 1 ∧ c.heads = o.heads ∧ c.chunk = o.chunk) ↔ (c.mem = o.mem ∧ c.chunk = o.chunk ∧ c.rows = o.rows ∧ c.log = o.log ∧ c.heads = o.heads) := by
  have hs := strC_box hc
  have h1 : 1 ≤ o.chunk := ho.2.2.1
  constructor
  · rintro ⟨e1, e2, e3, e4, e5⟩
    refine ⟨?_, e5, ?_, by omega, e4⟩
    · unfold blkC at e2
      rw [e1] at e2 hs
      have := Int.eq_of_mul_eq_mul_right (show strC o ≠ 0 by omega) e2
      omega
    · unfold strC at e1
      rw [e5] at e1
      exact Int.eq_of_mul_eq_mul_left (show o.chunk ≠ 0 by omega) e1
  · rintro ⟨e1, e2, e3, e4, e5⟩
    have es : strC c = strC o := by unfold strC; rw [e2, e3]
    refine ⟨es, ?_, by omega, e5, e2⟩
    unfold blkC
    rw [e1, es]

/-- With more room in the ring, and with fewer heads, a config stays one. -/
theorem more {c d : Cfg} (h : MayC c) (h1 : d.mem = c.mem) (h2 : d.chunk = c.chunk) (h3 : d.rows = c.rows) (h4 : c.log ≤ d.log) (h5 : d.log ≤ 255) (h6 : 2 ≤ d.heads) (h7 : d.heads ≤ c.heads) : MayC d := by
  obtain ⟨a1, a2, a3, a4, a5, a6, a7, a8, a9, a10⟩ := h
  have := Int.mul_le_mul (show c.mem + 1 ≤ c.mem + 1 by omega) (show d.heads + 1 ≤ c.heads + 1 by omega) (by omega) (by omega)
  refine ⟨by omega, by omega, by omega, by omega, by omega, by omega, by omega, by omega, ?_, h5⟩
  rw [h1]
  omega
end Go.Proofs.Ytcngonedcnddlaa.ShapeM
