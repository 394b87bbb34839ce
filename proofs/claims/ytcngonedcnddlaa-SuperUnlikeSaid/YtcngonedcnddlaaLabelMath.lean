/- Labels as numbers and as blocks (layer 9). No program in it. -/
import Derived.Test.YtcngonedcnddlaaSealMath
import Derived.Test.YtcngonedcnddlaaShapeMath
namespace Go.Proofs.Ytcngonedcnddlaa.LabelM
open Go.Proofs.Ytcngonedcnddlaa PolyM PackM ShapeM SealM
set_option linter.unusedVariables false

/-- A label. -/
structure Lab where
  id : Int
  ev : Int
  mem : Int
  chunk : Int
  rows : Int
  log : Int
  me : Int
  lost : Int
  done : Int
  op : Bool
/-- Its numbers are Go's. -/
structure WideL (l : Lab) : Prop where
  id : (Lit.int .u32 l.id).wf = true
  ev : (Lit.int .u32 l.ev).wf = true
  mem : (Lit.int .i64 l.mem).wf = true
  chunk : (Lit.int .i64 l.chunk).wf = true
  rows : (Lit.int .i64 l.rows).wf = true
  log : (Lit.int .i64 l.log).wf = true
  me : (Lit.int .i64 l.me).wf = true
  lost : (Lit.int .i64 l.lost).wf = true
  done : (Lit.int .i64 l.done).wf = true
def cfgL (l : Lab) : Cfg := ⟨l.id, l.mem, l.chunk, l.rows, l.log, 2⟩
def LostOk (mem lost done s : Int) : Prop := (lost = -1 ∧ done = 0) ∨ (lost ≠ -1 ∧ 0 ≤ lost ∧ lost < mem ∧ 0 ≤ done ∧ done ≤ s)
instance (a b c d : Int) : Decidable (LostOk a b c d) := by unfold LostOk; infer_instance
/-- A label may be. -/
def MayL (l : Lab) : Prop := MayC (cfgL l) ∧ l.ev ≤ 2147483648 ∧ (0 ≤ l.me ∧ l.me < l.mem) ∧ LostOk l.mem l.lost l.done (strC (cfgL l))
instance (l : Lab) : Decidable (MayL l) := by unfold MayL; infer_instance
def chkL (l : Lab) : Int := if MayL l then 0 else 8
/-- Who is lost, and whether it is open, as the block has it. -/
def who (lost : Int) : Int := if lost = -1 then 255 else lost
def opn (b : Bool) : Int := if b then 1 else 0
def rowsL : List (Nat × Nat) := [(0, 1), (1, 4), (5, 4), (9, 1), (10, 1), (11, 1), (12, 1), (13, 1), (14, 1), (15, 1), (16, 1)]
def valsL (l : Lab) : List Int := [76, l.id, l.ev, l.mem, l.chunk, l.rows, l.log, l.me, who l.lost, l.done, opn l.op]
theorem rowsL_lay : Lay rowsL := by
  refine ⟨?_, ?_⟩
  · show ∀ m, m < 11 → ∀ k, k < m → _
    decide
  · show ∀ k, k < 11 → _
    decide
def bodyL (l : Lab) : List Int := chain rowsL (valsL l) 11
def blockL (l : Lab) : List Int := sealL (bodyL l)
/-- The label of a block. -/
def tookL (zs : List Int) : Lab :=
  ⟨takeN zs 1 4, takeN zs 5 4, takeN zs 9 1, takeN zs 10 1, takeN zs 11 1, takeN zs 12 1, takeN zs 13 1, if takeN zs 14 1 = 255 then -1 else takeN zs 14 1, takeN zs 15 1, decide (takeN zs 16 1 = 1)⟩

theorem may_box {l : Lab} (hw : WideL l) (h : MayL l) : (0 ≤ l.id ∧ l.id ≤ 4294967295) ∧ (0 ≤ l.ev ∧ l.ev ≤ 2147483648) ∧ (3 ≤ l.mem ∧ l.mem ≤ 16) ∧ (1 ≤ l.chunk ∧ l.chunk ≤ 8) ∧ (1 ≤ l.rows ∧ l.rows ≤ 8) ∧ (12 ≤ l.log ∧ l.log ≤ 255) ∧ (0 ≤ l.me ∧ l.me ≤ 15) ∧ (-1 ≤ l.lost ∧ l.lost ≤ 15) ∧ (0 ≤ l.done ∧ l.done ≤ 64) := by
  obtain ⟨hc, he, ⟨h1, h2⟩, h3⟩ := h
  have s := strC_box hc
  have g := log_box hc
  have i := bounds_u32 hw.id
  have e := bounds_u32 hw.ev
  obtain ⟨c1, c2, c3, c4, c5, c6, _⟩ := hc
  unfold LostOk at h3
  simp only [cfgL] at *
  omega
theorem who_in {l : Lab} (hw : WideL l) (h : MayL l) : 0 ≤ who l.lost ∧ who l.lost ≤ 255 := by
  have := may_box hw h
  unfold who
  split <;> omega
theorem opn_in (b : Bool) : 0 ≤ opn b ∧ opn b ≤ 1 := by unfold opn; split <;> omega
theorem vals_fit {l : Lab} (hw : WideL l) (h : MayL l) : ∀ k, k < 11 → 0 ≤ (valsL l).getD k 0 ∧ (valsL l).getD k 0 < 256 ^ (rowsL.getD k (0, 0)).2 := by
  intro k hk
  have b := may_box hw h
  have c := who_in hw h
  have d := opn_in l.op
  have hk' : k = 0 ∨ k = 1 ∨ k = 2 ∨ k = 3 ∨ k = 4 ∨ k = 5 ∨ k = 6 ∨ k = 7 ∨ k = 8 ∨ k = 9 ∨ k = 10 := by omega
  obtain ⟨e0, e1, e2, e3, e4⟩ := pow_256
  rcases hk' with rfl | rfl | rfl | rfl | rfl | rfl | rfl | rfl | rfl | rfl | rfl
  · show 0 ≤ (76 : Int) ∧ (76 : Int) < 256 ^ 1; omega
  · show 0 ≤ l.id ∧ l.id < 256 ^ 4; omega
  · show 0 ≤ l.ev ∧ l.ev < 256 ^ 4; omega
  · show 0 ≤ l.mem ∧ l.mem < 256 ^ 1; omega
  · show 0 ≤ l.chunk ∧ l.chunk < 256 ^ 1; omega
  · show 0 ≤ l.rows ∧ l.rows < 256 ^ 1; omega
  · show 0 ≤ l.log ∧ l.log < 256 ^ 1; omega
  · show 0 ≤ l.me ∧ l.me < 256 ^ 1; omega
  · show 0 ≤ who l.lost ∧ who l.lost < 256 ^ 1; omega
  · show 0 ≤ l.done ∧ l.done < 256 ^ 1; omega
  · show 0 ≤ opn l.op ∧ opn l.op < 256 ^ 1; omega
theorem body_len (l : Lab) : (bodyL l).length = 128 := chain_len _ _ (by omega)
theorem body_bytes (l : Lab) : Bytes (bodyL l) := chain_bytes _ _ _
theorem block_len (l : Lab) : (blockL l).length = 128 := sealL_len _
theorem block_bytes (l : Lab) : Bytes (blockL l) := sealL_bytes (body_bytes l)
theorem block_sealed (l : Lab) : Sealed (blockL l) := sealL_sealed (body_len l)
theorem block_take {l : Lab} (hw : WideL l) (h : MayL l) {k : Nat} (hk : k < 11) : takeN (blockL l) (rowsL.getD k (0, 0)).1 (rowsL.getD k (0, 0)).2 = (valsL l).getD k 0 := by
  have b := rowsL_lay.2 k hk
  have f := vals_fit hw h k hk
  unfold blockL
  rw [sealL_take b.2.2]
  exact chain_take rowsL_lay f.1 f.2 11 hk (by decide)
/-- WHAT IS WRITTEN IS READ. -/
theorem took_block {l : Lab} (hw : WideL l) (h : MayL l) : tookL (blockL l) = l := by
  have t : ∀ k, k < 11 → takeN (blockL l) (rowsL.getD k (0, 0)).1 (rowsL.getD k (0, 0)).2 = (valsL l).getD k 0 := fun k hk => block_take hw h hk
  have b := may_box hw h
  have t1 : takeN (blockL l) 1 4 = l.id := t 1 (by omega)
  have t2 : takeN (blockL l) 5 4 = l.ev := t 2 (by omega)
  have t3 : takeN (blockL l) 9 1 = l.mem := t 3 (by omega)
  have t4 : takeN (blockL l) 10 1 = l.chunk := t 4 (by omega)
  have t5 : takeN (blockL l) 11 1 = l.rows := t 5 (by omega)
  have t6 : takeN (blockL l) 12 1 = l.log := t 6 (by omega)
  have t7 : takeN (blockL l) 13 1 = l.me := t 7 (by omega)
  have t8 : takeN (blockL l) 14 1 = who l.lost := t 8 (by omega)
  have t9 : takeN (blockL l) 15 1 = l.done := t 9 (by omega)
  have t10 : takeN (blockL l) 16 1 = opn l.op := t 10 (by omega)
  unfold tookL
  rw [t1, t2, t3, t4, t5, t6, t7, t8, t9, t10]
  have e1 : (if who l.lost = 255 then -1 else who l.lost) = l.lost := by
    unfold who
    by_cases q : l.lost = -1
    · rw [if_pos q, if_pos rfl, q]
    · rw [if_neg q, if_neg (by omega)]
  have e2 : decide (opn l.op = 1) = l.op := by unfold opn; cases l.op <;> decide
  rw [e1, e2]
theorem block_inj {l m : Lab} (hl : WideL l) (hm : WideL m) (h : MayL l) (k : MayL m) (e : blockL l = blockL m) : l = m := by
  rw [← took_block hl h, ← took_block hm k, e]
theorem took_wide {zs : List Int} (h : Bytes zs) : WideL (tookL zs) := by
  have t1 : ∀ p, 0 ≤ takeN zs p 1 ∧ takeN zs p 1 ≤ 255 := fun p => by have := takeN_in h p 1; rw [pow_256.2.1] at this; omega
  have t4 : ∀ p, 0 ≤ takeN zs p 4 ∧ takeN zs p 4 ≤ 4294967295 := fun p => by have := takeN_in h p 4; rw [pow_256.2.2.2.2] at this; omega
  have wi : ∀ n : Int, -1 ≤ n → n ≤ 255 → (Lit.int .i64 n).wf = true := fun n a b => WalkArith.wf_i64 (by omega)
  have wu : ∀ n : Int, 0 ≤ n → n ≤ 4294967295 → (Lit.int .u32 n).wf = true := fun n a b => WalkArith.wf_u32 (by omega)
  have q := t1 14
  have a9 := t1 9; have a10 := t1 10; have a11 := t1 11; have a12 := t1 12; have a13 := t1 13; have a15 := t1 15
  exact ⟨wu _ (t4 1).1 (t4 1).2, wu _ (t4 5).1 (t4 5).2, wi _ (Int.le_trans (by decide) a9.1) a9.2, wi _ (Int.le_trans (by decide) a10.1) a10.2, wi _ (Int.le_trans (by decide) a11.1) a11.2, wi _ (Int.le_trans (by decide) a12.1) a12.2, wi _ (Int.le_trans (by decide) a13.1) a13.2, by unfold tookL; dsimp only; split <;> exact wi _ (by omega) (by omega), wi _ (Int.le_trans (by decide) a15.1) a15.2⟩

/-- What Read answers of a block. -/
def ReadsAs (zs : List Int) : Prop := MayL (tookL zs) ∧ blockL (tookL zs) = zs
instance (zs : List Int) : Decidable (ReadsAs zs) := by unfold ReadsAs; infer_instance
def zeroL : Lab := ⟨0, 0, 0, 0, 0, 0, 0, 0, 0, false⟩
def readL (zs : List Int) : Lab := if ReadsAs zs then tookL zs else zeroL
def readE (zs : List Int) : Int := if ReadsAs zs then 0 else 90
theorem reads_block {l : Lab} (hw : WideL l) (h : MayL l) : ReadsAs (blockL l) := by
  unfold ReadsAs; rw [took_block hw h]; exact ⟨h, rfl⟩
theorem reads_sealed {zs : List Int} (h : ReadsAs zs) : Sealed zs := by rw [← h.2]; exact block_sealed _
theorem not_reads_nil : ¬ ReadsAs (pad []) := by
  intro h
  have := h.1.1.1
  revert this
  decide
/-- The document's own text ahead of the sum. -/
def fourL (n : Int) : List Int := [n % 256, n / 256 % 256, n / 65536 % 256, n / 16777216]
def textL (l : Lab) : List Int := [76] ++ fourL l.id ++ fourL l.ev ++ [l.mem, l.chunk, l.rows, l.log, l.me, who l.lost, l.done, opn l.op]
theorem text_body {l : Lab} (hw : WideL l) (h : MayL l) : pad (textL l) = bodyL l := by
  have f := vals_fit hw h
  have b := may_box hw h
  have hlen : (textL l).length = 17 := rfl
  refine ext128 (pad_len (by rw [hlen]; omega)) (body_len l) fun j hj => ?_
  rw [pad_getD]
  by_cases q : 17 ≤ j
  · have : ∀ j, 17 ≤ j → ∀ k, k < 11 → (rowsL.getD k (0, 0)).1 + (rowsL.getD k (0, 0)).2 ≤ j := by
      intro j hj k hk
      have : ∀ k, k < 11 → (rowsL.getD k (0, 0)).1 + (rowsL.getD k (0, 0)).2 ≤ 17 := by decide
      have := this k hk
      omega
    unfold bodyL
    rw [chain_out hj 11 fun k hk => .inr (this j q k hk), List.getD_eq_getElem?_getD, List.getElem?_eq_none (by rw [hlen]; exact q)]
    rfl
  · have key : ∀ k, k < 11 → ∀ j, (rowsL.getD k (0, 0)).1 ≤ j → j < (rowsL.getD k (0, 0)).1 + (rowsL.getD k (0, 0)).2 → (bodyL l).getD j 0 = byt ((valsL l).getD k 0) (j - (rowsL.getD k (0, 0)).1) := fun k hk j h1 h2 => chain_at rowsL_lay h1 h2 11 hk (by decide)
    have one : ∀ n : Int, 0 ≤ n → n < 256 ^ 1 → byt n 0 = n := fun n h0 h1 => by unfold byt; rw [pow_256.1]; rw [pow_256.2.1] at h1; omega
    have hj' : j = 0 ∨ j = 1 ∨ j = 2 ∨ j = 3 ∨ j = 4 ∨ j = 5 ∨ j = 6 ∨ j = 7 ∨ j = 8 ∨ j = 9 ∨ j = 10 ∨ j = 11 ∨ j = 12 ∨ j = 13 ∨ j = 14 ∨ j = 15 ∨ j = 16 := by omega
    obtain ⟨e0, e1, e2, e3, e4⟩ := pow_256
    have b4 : ∀ n : Int, 0 ≤ n → n ≤ 4294967295 → byt n 0 = n % 256 ∧ byt n 1 = n / 256 % 256 ∧ byt n 2 = n / 65536 % 256 ∧ byt n 3 = n / 16777216 := by
      intro n h0 h1
      unfold byt
      rw [e0, e1, e2, e3]
      omega
    have i4 := b4 l.id b.1.1 b.1.2
    have v4 := b4 l.ev b.2.1.1 (by omega)
    rcases hj' with rfl | rfl | rfl | rfl | rfl | rfl | rfl | rfl | rfl | rfl | rfl | rfl | rfl | rfl | rfl | rfl | rfl
    · rw [key 0 (by omega) 0 (by decide) (by decide)]; exact (one _ (f 0 (by omega)).1 (f 0 (by omega)).2).symm
    · rw [key 1 (by omega) 1 (by decide) (by decide)]; exact i4.1.symm
    · rw [key 1 (by omega) 2 (by decide) (by decide)]; exact i4.2.1.symm
    · rw [key 1 (by omega) 3 (by decide) (by decide)]; exact i4.2.2.1.symm
    · rw [key 1 (by omega) 4 (by decide) (by decide)]; exact i4.2.2.2.symm
    · rw [key 2 (by omega) 5 (by decide) (by decide)]; exact v4.1.symm
    · rw [key 2 (by omega) 6 (by decide) (by decide)]; exact v4.2.1.symm
    · rw [key 2 (by omega) 7 (by decide) (by decide)]; exact v4.2.2.1.symm
    · rw [key 2 (by omega) 8 (by decide) (by decide)]; exact v4.2.2.2.symm
    · rw [key 3 (by omega) 9 (by decide) (by decide)]; exact (one _ (f 3 (by omega)).1 (f 3 (by omega)).2).symm
    · rw [key 4 (by omega) 10 (by decide) (by decide)]; exact (one _ (f 4 (by omega)).1 (f 4 (by omega)).2).symm
    · rw [key 5 (by omega) 11 (by decide) (by decide)]; exact (one _ (f 5 (by omega)).1 (f 5 (by omega)).2).symm
    · rw [key 6 (by omega) 12 (by decide) (by decide)]; exact (one _ (f 6 (by omega)).1 (f 6 (by omega)).2).symm
    · rw [key 7 (by omega) 13 (by decide) (by decide)]; exact (one _ (f 7 (by omega)).1 (f 7 (by omega)).2).symm
    · rw [key 8 (by omega) 14 (by decide) (by decide)]; exact (one _ (f 8 (by omega)).1 (f 8 (by omega)).2).symm
    · rw [key 9 (by omega) 15 (by decide) (by decide)]; exact (one _ (f 9 (by omega)).1 (f 9 (by omega)).2).symm
    · rw [key 10 (by omega) 16 (by decide) (by decide)]; exact (one _ (f 10 (by omega)).1 (f 10 (by omega)).2).symm
end Go.Proofs.Ytcngonedcnddlaa.LabelM
