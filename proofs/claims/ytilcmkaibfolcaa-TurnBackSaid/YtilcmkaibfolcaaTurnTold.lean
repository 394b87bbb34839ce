/- What package turn's five functions answer, for every config and every number. -/
import Derived.Test.YtilcmkaibfolcaaTurnOut
namespace Go.Proofs.Ytilcmkaibfolcaa
open Go.RowKit ShapeM TurnM
set_option linter.unusedVariables false

/-- The error: 8 of a config that may not be, 2 of numbers that are not there. -/
def okE (c : Cfg) (b : Bool) : Int := if MayC c then (if b then 0 else 2) else 8
/-- What is told with an error: 0, or the number. -/
def pickE (e n : Int) : Int := if e = 0 then n else 0
theorem pickE_0 (n : Int) : pickE 0 n = n := rfl
theorem pickE_2 (n : Int) : pickE 2 n = 0 := rfl
theorem pickE_8 (n : Int) : pickE 8 n = 0 := rfl
theorem okE_no {c : Cfg} (h : ¬ MayC c) (b : Bool) : okE c b = 8 := by unfold okE; rw [if_neg h]
theorem okE_ok {c : Cfg} (h : MayC c) : okE c true = 0 := by unfold okE; rw [if_pos h]; rfl
theorem okE_arg {c : Cfg} (h : MayC c) : okE c false = 2 := by unfold okE; rw [if_pos h]; rfl
def eSpot (c : Cfg) (b : Int) : Int := okE c (amongB b (blkC c))
def eBlk (c : Cfg) (s k : Int) : Int := okE c (amongB s (strC c) && amongB k (c.mem - 1))
def ePar (c : Cfg) (s : Int) : Int := okE c (amongB s (strC c))
def eMem (c : Cfg) (s k : Int) : Int := okE c (amongB s (strC c) && amongB k c.mem)
def vSpS (c : Cfg) (b : Int) : Int := (spS (nN c) (nK c) b.toNat : Nat)
def vSpK (c : Cfg) (b : Int) : Int := (spK (nN c) (nK c) b.toNat : Nat)
def vSpM (c : Cfg) (b : Int) : Int := (mem (nN c) (nK c) (spS (nN c) (nK c) b.toNat) (spK (nN c) (nK c) b.toNat) : Nat)
def vBlk (c : Cfg) (s k : Int) : Int := (blk (nN c) (nK c) s.toNat k.toNat : Nat)
def vPar (c : Cfg) (s : Int) : Int := (par (nN c) (nK c) s.toNat : Nat)
def vMem (c : Cfg) (s k : Int) : Int := (mem (nN c) (nK c) s.toNat k.toNat : Nat)
def vSlot (c : Cfg) (s k : Int) : Int := (slot (nN c) (nK c) s.toNat k.toNat : Nat)

theorem among_lt {b : Int} {n : Nat} (h : amongB b n = true) : ∃ x : Nat, b = x ∧ x < n := by
  have q := of_decide_eq_true h
  exact ⟨b.toNat, by omega, by omega⟩
theorem mem_minus {c : Cfg} (h : MayC c) : c.mem - 1 = ((nN c - 1 : Nat) : Int) := by have := (may3 h).n0; rw [mem_nN h]; omega
theorem str_64 {c : Cfg} (h : MayC c) : nK c * nR c ≤ 64 := by have := strC_box h; rw [strC_n h] at this; omega
theorem blk_960 {c : Cfg} (h : MayC c) : (nN c - 1) * (nK c * nR c) ≤ 960 := by have := blkC_box h; rw [blkC_n h] at this; omega

theorem arrayOf_may (c : Cfg) (h : MayC c) (w : World) : Calls Try.prog 21 #[cfgV c] w fun e w' => e = .returned (.tuple #[arrG c.chunk (c.mem - 1) c.mem (blkC c) (strC c), .int .i64 0]) ∧ Below w.heap.size w w' := by
  have kc := fun W => check_calls c W
  have kb := fun W => blocks_told c W
  have ks := fun W => stripes_told c W
  simp only [chkC_may h, numC_may h] at kc kb ks
  exact arrayOf_gen c.id c.mem c.chunk c.rows c.log c.heads (blkC c) (strC c) h.1 (by have := h.2.1; omega) kc kb ks w
theorem arrayOf_no (c : Cfg) (h : ¬ MayC c) (w : World) : Calls Try.prog 21 #[cfgV c] w fun e w' => e = .returned (.tuple #[arrG 0 0 0 0 0, .int .i64 8]) ∧ Below w.heap.size w w' := by
  have kc := fun W => check_calls c W
  simp only [chkC_not h] at kc
  exact arrayOf_bad c.id c.mem c.chunk c.rows c.log c.heads kc w

theorem turnSpot (c : Cfg) (b : Int) (w : World) : Calls Try.prog 12 #[cfgV c, .int .i64 b] w fun e w' => e = .returned (.tuple #[spotV (pickE (eSpot c b) (vSpS c b)) (pickE (eSpot c b) (vSpK c b)) (pickE (eSpot c b) (vSpM c b)), .int .i64 (eSpot c b)]) ∧ Below w.heap.size w w' := by
  unfold eSpot
  by_cases h : MayC c
  · cases hb : amongB b (blkC c)
    · rw [okE_arg h]
      exact spot_arg c.id c.mem c.chunk c.rows c.log c.heads _ _ _ _ _ b hb (arrayOf_may c h) w
    · rw [okE_ok h]
      refine spot_ok c.id c.mem c.chunk c.rows c.log c.heads _ _ _ _ _ b _ _ _ hb (arrayOf_may c h) (fun W => ?_) w
      have M := may3 h
      rw [blkC_n h] at hb
      obtain ⟨x, rfl, hx⟩ := among_lt hb
      have h9 := blk_960 h
      have h8 := str_64 h
      have h7 := spS_lt M hx
      have q := spot_calls (nN c) (nK c) M.n0 M.n1 M.k0 M.k1 (blkC c) (strC c) x (by omega) (by omega) W
      rw [← mem_minus h, ← mem_nN h, ← chunk_nK h] at q
      exact q
  · rw [okE_no h]
    exact spot_bad c.id c.mem c.chunk c.rows c.log c.heads b (arrayOf_no c h) w
theorem turnBlock (c : Cfg) (s k : Int) (w : World) : Calls Try.prog 8 #[cfgV c, .int .i64 s, .int .i64 k] w fun e w' => e = .returned (.tuple #[.int .i64 (pickE (eBlk c s k) (vBlk c s k)), .int .i64 (eBlk c s k)]) ∧ Below w.heap.size w w' := by
  unfold eBlk
  by_cases h : MayC c
  · cases hs : amongB s (strC c)
    · rw [Bool.false_and, okE_arg h]
      exact block_arg1 c.id c.mem c.chunk c.rows c.log c.heads _ _ _ _ _ s k hs (arrayOf_may c h) w
    · cases hk : amongB k (c.mem - 1)
      · rw [Bool.and_false, okE_arg h]
        exact block_arg2 c.id c.mem c.chunk c.rows c.log c.heads _ _ _ _ _ s k hs hk (arrayOf_may c h) w
      · rw [Bool.and_true, okE_ok h]
        refine block_ok c.id c.mem c.chunk c.rows c.log c.heads _ _ _ _ _ s k _ hs hk (arrayOf_may c h) (fun W => ?_) w
        have M := may3 h
        rw [strC_n h] at hs
        rw [mem_minus h] at hk
        obtain ⟨x, rfl, hx⟩ := among_lt hs
        obtain ⟨y, rfl, hy⟩ := among_lt hk
        have h8 := str_64 h
        have h7 := M.n1
        have q := block_calls (nN c) (nK c) M.n0 M.n1 M.k0 M.k1 (blkC c) (strC c) x (by omega) y (by omega) W
        rw [← mem_minus h, ← mem_nN h, ← chunk_nK h] at q
        exact q
  · rw [okE_no h]
    exact block_bad c.id c.mem c.chunk c.rows c.log c.heads s k (arrayOf_no c h) w
theorem rows_form {c : Cfg} (h : MayC c) : rowsV (nN c) (nK c) = .agg #[.int .i64 c.chunk, .int .i64 (c.mem - 1), .int .i64 c.mem] := by unfold rowsV; rw [← mem_minus h, ← mem_nN h, ← chunk_nK h]
theorem turnParity (c : Cfg) (s : Int) (w : World) : Calls Try.prog 16 #[cfgV c, .int .i64 s] w fun e w' => e = .returned (.tuple #[.int .i64 (pickE (ePar c s) (vPar c s)), .int .i64 (ePar c s)]) ∧ Below w.heap.size w w' := by
  unfold ePar
  by_cases h : MayC c
  · cases hs : amongB s (strC c)
    · rw [okE_arg h]
      exact parity_arg1 c.id c.mem c.chunk c.rows c.log c.heads _ _ _ _ _ s hs (arrayOf_may c h) w
    · rw [okE_ok h]
      refine parity_ok c.id c.mem c.chunk c.rows c.log c.heads _ _ _ _ _ s _ hs (arrayOf_may c h) (fun W => ?_) w
      have M := may3 h
      rw [strC_n h] at hs
      obtain ⟨x, rfl, hx⟩ := among_lt hs
      have h8 := str_64 h
      have q := parity_calls (nN c) (nK c) M.n0 M.n1 M.k0 M.k1 x (by omega) W
      rw [rows_form h] at q
      exact q
  · rw [okE_no h]
    exact parity_bad c.id c.mem c.chunk c.rows c.log c.heads s (arrayOf_no c h) w
theorem turnMember (c : Cfg) (s k : Int) (w : World) : Calls Try.prog 10 #[cfgV c, .int .i64 s, .int .i64 k] w fun e w' => e = .returned (.tuple #[.int .i64 (pickE (eMem c s k) (vMem c s k)), .int .i64 (eMem c s k)]) ∧ Below w.heap.size w w' := by
  unfold eMem
  by_cases h : MayC c
  · cases hs : amongB s (strC c)
    · rw [Bool.false_and, okE_arg h]
      exact member_arg1 c.id c.mem c.chunk c.rows c.log c.heads _ _ _ _ _ s k hs (arrayOf_may c h) w
    · cases hk : amongB k c.mem
      · rw [Bool.and_false, okE_arg h]
        exact member_arg2 c.id c.mem c.chunk c.rows c.log c.heads _ _ _ _ _ s k hs hk (arrayOf_may c h) w
      · rw [Bool.and_true, okE_ok h]
        refine member_ok c.id c.mem c.chunk c.rows c.log c.heads _ _ _ _ _ s k _ hs hk (arrayOf_may c h) (fun W => ?_) w
        have M := may3 h
        rw [strC_n h] at hs
        rw [mem_nN h] at hk
        obtain ⟨x, rfl, hx⟩ := among_lt hs
        obtain ⟨y, rfl, hy⟩ := among_lt hk
        have h8 := str_64 h
        have h7 := M.n1
        have q := member_calls (nN c) (nK c) M.n0 M.n1 M.k0 M.k1 x (by omega) y (by omega) W
        rw [rows_form h] at q
        exact q
  · rw [okE_no h]
    exact member_bad c.id c.mem c.chunk c.rows c.log c.heads s k (arrayOf_no c h) w
theorem turnSlot (c : Cfg) (s k : Int) (w : World) : Calls Try.prog 11 #[cfgV c, .int .i64 s, .int .i64 k] w fun e w' => e = .returned (.tuple #[.int .i64 (pickE (eMem c s k) (vSlot c s k)), .int .i64 (eMem c s k)]) ∧ Below w.heap.size w w' := by
  unfold eMem
  by_cases h : MayC c
  · cases hs : amongB s (strC c)
    · rw [Bool.false_and, okE_arg h]
      exact slot_arg1 c.id c.mem c.chunk c.rows c.log c.heads _ _ _ _ _ s k hs (arrayOf_may c h) w
    · cases hk : amongB k c.mem
      · rw [Bool.and_false, okE_arg h]
        exact slot_arg2 c.id c.mem c.chunk c.rows c.log c.heads _ _ _ _ _ s k hs hk (arrayOf_may c h) w
      · rw [Bool.and_true, okE_ok h]
        refine slot_ok c.id c.mem c.chunk c.rows c.log c.heads _ _ _ _ _ s k _ hs hk (arrayOf_may c h) (fun W => ?_) w
        have M := may3 h
        rw [strC_n h] at hs
        rw [mem_nN h] at hk
        obtain ⟨x, rfl, hx⟩ := among_lt hs
        obtain ⟨y, rfl, hy⟩ := among_lt hk
        have h8 := str_64 h
        have h7 := M.n1
        have q := slot_calls (nN c) (nK c) M.n0 M.n1 M.k0 M.k1 x (by omega) y (by omega) W
        rw [rows_form h] at q
        exact q
  · rw [okE_no h]
    exact slot_bad c.id c.mem c.chunk c.rows c.log c.heads s k (arrayOf_no c h) w
end Go.Proofs.Ytilcmkaibfolcaa
