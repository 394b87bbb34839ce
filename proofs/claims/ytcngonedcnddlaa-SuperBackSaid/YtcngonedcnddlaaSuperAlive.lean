/- The laws' own helpers of layer 10: five, alive; what Write and Read answer for every input, in one form. -/
import Derived.Test.YtcngonedcnddlaaSuperRead
import Derived.Deep.Cut
namespace Go.Proofs.Ytcngonedcnddlaa
open Go.RowKit PolyM PackM SealM LabelM SuperM
set_option linter.unusedVariables false

/-- The chapter's super. -/
def fiveS : Sup := ⟨7, 1, 300, 5⟩
theorem fiveS_may : MayS fiveS := by decide
theorem fiveS_wide : WideS fiveS := ⟨by decide, by decide, by decide, by decide⟩
theorem readS_block {s : Sup} (hw : WideS s) (h : MayS s) : readS (blockS s) = s := by
  have := reads_blockS hw h
  unfold readS
  rw [if_pos this, took_blockS hw h]
theorem readES_block {s : Sup} (hw : WideS s) (h : MayS s) : readES (blockS s) = 0 := by
  have := reads_blockS hw h
  unfold readES
  rw [if_pos this]
theorem supRead_block {s : Sup} (hw : WideS s) (h : MayS s) (A : Option Addr) (c : Nat) (W : World) (hI : Ints .u8 W A 128 (blockS s)) : Calls Try.prog 11 #[.slice A 128 c] W fun e w' => e = .returned (.tuple #[supV s, .int .i64 0]) ∧ Below W.heap.size W w' := by
  have := supRead A 128 c (blockS s) W hI (.inr rfl)
  rw [pad_whole (blockS_len s), readS_block hw h, readES_block hw h] at this
  exact this
theorem blockS_ints {s : Sup} {w : World} {g : Nat} {t : TypeId} (h : w.heap[g]? = some (.cells (cells (blockS s)) t (0, 0))) : Ints .u8 w (some ⟨g, 0, none⟩) 128 (blockS s) :=
  Ints.ofCells h (blockS_len s) (by omega) (blockS_bytes s)
theorem five_text : strOfNums ((blockS fiveS).take 14) = ⟨#[83, 7, 0, 0, 0, 1, 0, 0, 0, 44, 1, 0, 0, 5]⟩ := by decide +kernel

set_option maxRecDepth 100000 in
set_option maxHeartbeats 4000000 in
theorem five_calls (w : World) : Calls Try.prog 10 #[] w fun e w' => e = .returned (.agg #[.int .u32 7, .int .u32 1, .int .u32 300, .int .i64 5]) ∧ Below w.heap.size w w' := by
  go_enter Try.func10, Try.ntmps10
  go_wp2
  exact bodyPost_ret (v := .agg #[.int .u32 7, .int .u32 1, .int .u32 300, .int .i64 5]) (by simp [results, Try.results10, go_sem]) rfl ⟨rfl, (Below.refl _ _).alloc (Nat.le_refl _) _⟩
set_option maxRecDepth 100000 in
set_option maxHeartbeats 4000000 in
theorem alive10_calls (w : World) : Calls Try.prog 12 #[] w fun e w' => e = .returned (.bool true) ∧ Below w.heap.size w w' := by
  have kw := fun W => supWrite_ok fiveS_wide fiveS_may W
  have hs := five_text
  have hb := Below.refl w.heap.size w
  have hL := blockS_len fiveS
  have hLB := blockS_bytes fiveS
  unfold supV at kw
  generalize hbl : blockS fiveS = L at *
  unfold fiveS at kw
  dsimp only at kw
  clear hbl
  go_enter Try.func12, Try.ntmps12
  go_upto_region 2 with (first
    | (go_at_call 10; refine (five_calls _).mono ?_; rintro e w2 ⟨rfl, hb2⟩; replace hb := hb.trans (hb2.mono hb.size); clear hb2)
    | (go_at_call 9; (with_reducible refine (kw _).mono ?_); rintro e w3 ⟨g, hg, rfl, hc, hb3⟩; replace hb := hb.trans (hb3.mono hb.size); clear hb3))
  have hI := Ints.ofCells hc hL (by omega) hLB
  have hsl := fun W => slice_to (some ⟨g, 0, none⟩) 128 128 14 (by omega) W
  have tx := (hI.take (N := 14) (by omega)).text (P := Try.prog) (c := 128) Try.underlying22 Try.underlying5 Try.underlying9
  rw [hs] at tx
  go_wp2
  go_ret
  exact ⟨rfl, hb⟩

/-- The bytes that Write answers, and how many. -/
def outS (s : Sup) : List Int := if MayS s then blockS s else []
def outSN (s : Sup) : Nat := if MayS s then 128 else 0
theorem nil_ints10 (k : IntKind) (w : World) : Ints k w none 0 [] := ⟨rfl, by omega, by simp, .inl rfl⟩
theorem supWrite_any {s : Sup} (hw : WideS s) (w : World) : Calls Try.prog 9 #[supV s] w fun e w' => ∃ A c, e = .returned (.tuple #[.slice A (outSN s) c, .int .i64 (chkS s)]) ∧ outSN s ≤ c ∧ Ints .u8 w' A (outSN s) (outS s) ∧ Below w.heap.size w w' := by
  unfold outSN outS
  by_cases h : MayS s
  · rw [if_pos h, if_pos h, chkS_may h]
    refine (supWrite_ok hw h w).mono ?_
    rintro e w' ⟨g, hg, rfl, hc, hb⟩
    exact ⟨_, _, rfl, by omega, blockS_ints hc, hb⟩
  · rw [if_neg h, if_neg h, chkS_not h]
    refine (supWrite_no h w).mono ?_
    rintro e w' ⟨rfl, hb⟩
    exact ⟨_, _, rfl, by omega, nil_ints10 _ _, hb⟩
/-- Read of whatever bytes. -/
def rdS (n : Nat) (zs : List Int) : Sup := if n = 0 ∨ n = 128 then readS (pad zs) else zeroS
def rdES (n : Nat) (zs : List Int) : Int := if n = 0 ∨ n = 128 then readES (pad zs) else 3
theorem supRead_any (a : Option Addr) (n c : Nat) (zs : List Int) (w : World) (hI : Ints .u8 w a n zs) : Calls Try.prog 11 #[.slice a n c] w fun e w' => e = .returned (.tuple #[supV (rdS n zs), .int .i64 (rdES n zs)]) ∧ Below w.heap.size w w' := by
  unfold rdS rdES
  by_cases h : n = 0 ∨ n = 128
  · rw [if_pos h, if_pos h]
    exact supRead a n c zs w hI h
  · rw [if_neg h, if_neg h]
    exact supRead_text a n c zs w hI (fun q => h (.inl q)) (fun q => h (.inr q))
theorem chkS_cases (s : Sup) : (MayS s ∧ chkS s = 0 ∧ outSN s = 128 ∧ outS s = blockS s) ∨ (¬ MayS s ∧ chkS s = 8 ∧ outSN s = 0 ∧ outS s = []) := by
  unfold outSN outS
  by_cases h : MayS s
  · exact .inl ⟨h, chkS_may h, if_pos h, if_pos h⟩
  · exact .inr ⟨h, chkS_not h, if_neg h, if_neg h⟩
theorem outS_bytes (s : Sup) : Bytes (outS s) := by
  unfold outS
  split
  · exact blockS_bytes s
  · intro z hz; cases hz
end Go.Proofs.Ytcngonedcnddlaa
