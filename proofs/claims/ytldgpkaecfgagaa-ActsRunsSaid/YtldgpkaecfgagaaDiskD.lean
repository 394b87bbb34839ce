/- The walks of package disk: New, Kill. -/
import Derived.Test.YtldgpkaecfgagaaDiskC
namespace Go.Proofs.Ytldgpkaecfgagaa
open Go.RowKit PolyM PackM FoldM DevM

theorem own_made (w : World) (n : Nat) (base : Nat) (hb : base ≤ w.heap.size) (hm : n ≤ 300) :
    (w.alloc (.cells (madeCells #[.slice none 0 0] n) 29)).ownsRow base 29 1 (.slice (some ⟨w.heap.size, 0, none⟩) n n) n (List.replicate n (.slice none 0 0)) := by
  refine ⟨by simp, .inr ⟨w.heap.size, n, _, rfl, hb, heap_alloc_new w _, Nat.le_refl _, by simp only [maxLen]; omega, by rw [size_madeCells, Nat.mul_one], ?_⟩⟩
  apply List.ext_getElem?
  intro i
  rw [List.getElem?_take, List.getElem?_replicate, Nat.mul_one]
  by_cases h : i < n
  · rw [if_pos h, if_pos h]
    simp [madeCells, h, Nat.mod_one]
  · rw [if_neg h, if_neg h]
theorem hdrs_none (w : World) (n : Nat) : Hdrs w (List.replicate n (.slice none 0 0)) (List.replicate n []) := by
  refine ⟨by simp, fun i v hv => ?_⟩
  rw [List.getElem?_replicate] at hv ⊢
  split at hv
  · rename_i h
    injection hv with hv
    exact ⟨none, 0, 0, [], by rw [if_pos h], hv.symm, nil_ints .u8 w 0⟩
  · cases hv
theorem high_none (K : Nat) (w : World) (n : Nat) : High K w (List.replicate n (.slice none 0 0)) := by
  intro v hv x L C e _
  rw [List.eq_of_mem_replicate hv] at e
  cases e
theorem none_dev (K : Nat) (w : World) (n : Nat) (dd : Bool) (hb : K ≤ w.heap.size) (_hw : w.heap.size = w.heap.size) (hm : n ≤ 300) : DevN K (w.alloc (.cells (madeCells #[.slice none 0 0] n) 29)) (.agg #[.slice (some ⟨w.heap.size, 0, none⟩) n n, .slice none 0 0, .bool dd]) ⟨List.replicate n [], [], dd⟩ :=
  ⟨_, n, n, _, none, 0, 0, [], rfl, own_made w n K hb hm, World.ownsRow_nil _ _ _ _, hdrs_none _ n, Waits.nil _, high_none _ _ _, High.nil _ _, by omega, by omega⟩
/-- An answer of a device and an error. -/
def DevIs (w : World) (er : Int) (d : Dev) (e : Ending) (w' : World) : Prop :=
  ∃ v, e = .returned (.tuple #[v, .int .i64 er]) ∧ DevN w.heap.size w' v d ∧ Below w.heap.size w w'
theorem make_hdrs (n : Nat) (hn : n ≤ 256) (W : World) : (Instr.makeSlice 22 (.int .i64 (n : Int)) (.int .i64 (n : Int))).run Try.prog W = .ok (.slice (some ⟨W.heap.size, 0, none⟩) n n) (W.alloc (.cells (madeCells #[.slice none 0 0] n) 29)) :=
  run_make_row' (P := Try.prog) 22 29 (.slice none 0 0) 24 Try.underlying22 (by kernel_rfl) rfl .i64 .i64 n (by omega) (by omega) W

set_option maxRecDepth 100000 in
set_option maxHeartbeats 2000000 in
theorem new_no (n : Int) (w : World) (h : n < 1 ∨ (1 ≤ n ∧ 256 < n)) :
    Calls Try.prog 15 #[.int .i64 n] w (DevIs w 2 ⟨[], [], false⟩) := by
  rcases h with h | ⟨h, h'⟩
  all_goals
    go_enter Try.func15, Try.ntmps15
    go_wp2
    exact bodyPost_ret (v := .tuple #[noDev, .int .i64 2]) (by simp [results, Try.results15, go_sem, noDev]) rfl ⟨_, rfl, noDev_is _ _, (Below.refl _ _).alloc (Nat.le_refl _) _⟩
set_option maxRecDepth 100000 in
set_option maxHeartbeats 2000000 in
theorem new_yes (n : Nat) (w : World) (h : (1 : Int) ≤ n) (h' : (n : Int) ≤ 256) :
    Calls Try.prog 15 #[.int .i64 n] w (DevIs w 0 ⟨List.replicate n [], [], false⟩) := by
  have hmk := make_hdrs n (by omega)
  go_enter Try.func15, Try.ntmps15
  go_wp2
  refine bodyPost_ret (v := .tuple #[.agg #[.slice (some ⟨w.heap.size + 1, 0, none⟩) n n, .slice none 0 0, .bool false], .int .i64 0]) (by simp [results, Try.results15, go_sem]) rfl ⟨_, rfl, (by simpa using none_dev w.heap.size (w.alloc _) n false (by simp) rfl (by omega)), ?_⟩
  exact ((Below.refl _ _).alloc (Nat.le_refl _) _).alloc (by simp) _

set_option maxRecDepth 100000 in
set_option maxHeartbeats 2000000 in
theorem kill_calls (v : Value) (d : Dev) (w : World) (h : DevV w v d) :
    Calls Try.prog 19 #[v] w (DevIs w (chk d) (if MayD d then ⟨List.replicate d.blocks.length [], [], true⟩ else ⟨[], [], false⟩)) := by
  have hv := h
  obtain ⟨A, n, C, hs, B, m, D, ht, rfl, h1, h2⟩ := h
  have hl1 := h1.len
  have hb : Below w.heap.size w ((w.alloc (.cells #[.slice A n C, .slice B m D, .bool d.dead] 25)).alloc (.cells #[.slice none 0 0, .slice none 0 0, .bool false] 25)) := ((Below.refl _ _).alloc (Nat.le_refl _) _).alloc (by simp) _
  have hsz : w.heap.size + 1 < ((w.alloc (.cells #[.slice A n C, .slice B m D, .bool d.dead] 25)).alloc (.cells #[.slice none 0 0, .slice none 0 0, .bool false] 25)).heap.size := by simp
  have cc := check_calls _ d _ (hv.below hb (Nat.le_refl _))
  have bx0 := (BoxD.new w (.slice A n C) (.slice B m D) (.bool d.dead)).alloc (.cells #[.slice none 0 0, .slice none 0 0, .bool false] 25)
  have bx1 := BoxD.new (w.alloc (.cells #[.slice A n C, .slice B m D, .bool d.dead] 25)) (.slice none 0 0) (.slice none 0 0) (.bool false)
  rw [World.size_alloc] at bx1
  by_cases hM : MayD d
  · rw [chk_may hM] at cc ⊢
    rw [if_pos hM]
    have hn : n ≤ 256 := by have := hM.2.1; omega
    have hmk := make_hdrs n hn
    rw [hl1]
    clear hM hv h1 h2 hl1
    go_enter Try.func19, Try.ntmps19
    go_wp2_with fail
    (with_reducible refine cc.mono ?_)
    rintro e w2 ⟨rfl, hb2⟩
    have b0 := bx0.below hb2
    have b1 := bx1.below hb2
    have e0 := b0.c0
    have f0 := b1.c0
    have f1 := b1.c1
    have f2 := b1.c2
    have r0 := b1.fr (o := 0)
    have r1 := b1.fr (o := 1)
    have r2 := b1.fr (o := 2)
    have hz := Nat.lt_of_lt_of_le hsz hb2.size
    clear cc hsz bx0 bx1
    go_wp2
    have hsz3 : (((w2.setCell ⟨w.heap.size + 1, 0, none⟩ (.slice (some ⟨w2.heap.size, 0, none⟩) n n)).setCell ⟨w.heap.size + 1, 1, none⟩ (.slice none 0 0)).setCell ⟨w.heap.size + 1, 2, none⟩ (.bool true)).heap.size = w2.heap.size := by simp
    have hB : Below w.heap.size w (((w2.setCell ⟨w.heap.size + 1, 0, none⟩ (.slice (some ⟨w2.heap.size, 0, none⟩) n n)).setCell ⟨w.heap.size + 1, 1, none⟩ (.slice none 0 0)).setCell ⟨w.heap.size + 1, 2, none⟩ (.bool true)) := (((hb.trans (hb2.mono hb.size)).setCell (by simp) _).setCell (by simp) _).setCell (by simp) _
    have hN := none_dev w.heap.size _ n true hB.size rfl (by omega : n ≤ 300)
    rw [hsz3] at hN
    exact bodyPost_ret (v := .tuple #[.agg #[.slice (some ⟨w2.heap.size, 0, none⟩) n n, .slice none 0 0, .bool true], .int .i64 0]) (by simp [results, Try.results19, go_sem, f0, f1, f2, hz]) rfl ⟨_, rfl, hN, hB.alloc hB.size _⟩
  · rw [chk_not hM] at cc ⊢
    rw [if_neg hM]
    clear hM hv h1 h2 hl1
    go_enter Try.func19, Try.ntmps19
    go_wp2_with fail
    (with_reducible refine cc.mono ?_)
    rintro e w2 ⟨rfl, hb2⟩
    have b1 := bx1.below hb2
    have f0 := b1.c0
    have f1 := b1.c1
    have f2 := b1.c2
    have r0 := b1.fr (o := 0)
    have r1 := b1.fr (o := 1)
    have r2 := b1.fr (o := 2)
    have hz := Nat.lt_of_lt_of_le hsz hb2.size
    clear cc hsz bx0 bx1
    go_wp2
    have hB : Below w.heap.size w (((w2.setCell ⟨w.heap.size + 1, 0, none⟩ (.slice none 0 0)).setCell ⟨w.heap.size + 1, 1, none⟩ (.slice none 0 0)).setCell ⟨w.heap.size + 1, 2, none⟩ (.bool false)) := (((hb.trans (hb2.mono hb.size)).setCell (by simp) _).setCell (by simp) _).setCell (by simp) _
    exact bodyPost_ret (v := .tuple #[noDev, .int .i64 8]) (by simp [results, Try.results19, go_sem, f0, f1, f2, noDev]) rfl ⟨_, rfl, noDev_is _ _, hB⟩
end Go.Proofs.Ytldgpkaecfgagaa
