/- The walks of the reference's written and Kill. -/
import Derived.Test.YtldgpkaecfgagaaRefDC
import Derived.Test.YtldgpkaecfgagaaDiskD
namespace Go.Proofs.Ytldgpkaecfgagaa
open Go.RowKit PolyM PackM FoldM DevM

theorem askE_write (d : Dev) (k : Int) (zs : List Int) : (askE d k ≠ 0 ∧ useE d k zs = askE d k) ∨ (askE d k = 0 ∧ ¬ Blk zs ∧ useE d k zs = 3) ∨ (askE d k = 0 ∧ Blk zs ∧ d.dead = true ∧ useE d k zs = 40) ∨ (askE d k = 0 ∧ Blk zs ∧ d.dead = false ∧ useE d k zs = 0) := by
  unfold askE useE
  by_cases h1 : MayD d <;> by_cases h2 : placeB d k = false <;> by_cases h3 : d.dead = true <;> by_cases h4 : Blk zs <;> simp [h1, h2, h3, h4]

set_option maxRecDepth 100000 in
set_option maxHeartbeats 8000000 in
theorem refwritten_calls (v : Value) (d : Dev) (k : Int) (a : Option Addr) (q c : Nat) (zs : List Int) (w : World) (h : DevV w v d) (hz : Ints .u8 w a q zs) :
    Calls Try.prog 79 #[v, .int .i64 k, .slice a q c] w fun e w' => e = .returned (.int .i64 (useE d k zs)) ∧ Below w.heap.size w w' := by
  have hv := h
  obtain ⟨A, n, C, hs, B, m, D, ht, rfl, h1, h2⟩ := h
  obtain ⟨c0, c1, c2, hb⟩ := boxed_dev (w := w) (x := .slice A n C) (y := .slice B m D) (z := .bool d.dead) (t := 25)
  have hsz : w.heap.size < (w.alloc (.cells #[.slice A n C, .slice B m D, .bool d.dead] 25)).heap.size := by simp
  have cc := refasked_calls _ d k _ (hv.below hb (Nat.le_refl _))
  have cs := fun W (hW : Below w.heap.size w W) => refsized_calls a q c zs W (hz.below hW (Nat.le_refl _))
  rcases askE_write d k zs with ⟨q1, q2⟩ | ⟨q1, q2, q3⟩ | ⟨q1, q2, q3, q4⟩ | ⟨q1, q2, q3, q4⟩
  · rw [q2]
    have heq : (askE d k == 0) = false := by simp; exact q1
    generalize askE d k = er at *
    clear q1 q2 hv h1 h2 hz cs
    go_enter Try.func79, Try.ntmps79
    go_wp2_with fail
    (with_reducible refine cc.mono ?_)
    rintro e w2 ⟨rfl, hb2⟩
    have hb3 := hb.trans (hb2.mono hb.size)
    clear cc c0 c1 c2 hb hb2 hsz
    go_wp2
    go_ret
    exact ⟨rfl, hb3⟩
  · rw [q3]
    rw [q1] at cc
    rw [decide_eq_false q2] at cs
    clear q1 q2 q3 hv h1 h2 hz
    go_enter Try.func79, Try.ntmps79
    go_wp2_with fail
    (with_reducible refine cc.mono ?_)
    rintro e w2 ⟨rfl, hb2⟩
    have hb3 := hb.trans (hb2.mono hb.size)
    clear cc c0 c1 c2 hb hb2 hsz
    go_wp2_with fail
    (with_reducible refine (cs _ hb3).mono ?_)
    rintro e w3 ⟨rfl, rfl⟩
    clear cs
    go_wp2
    go_ret
    exact ⟨rfl, hb3⟩
  all_goals
    rw [q4]
    rw [q1] at cc
    rw [decide_eq_true q2] at cs
    generalize d.dead = dd at *
    subst q3
    clear q1 q2 q4 hv h1 h2 hz
    go_enter Try.func79, Try.ntmps79
    go_wp2_with fail
    (with_reducible refine cc.mono ?_)
    rintro e w2 ⟨rfl, hb2⟩
    have e2 := (hb2.cell (p := ⟨w.heap.size, 2, none⟩) hsz).trans c2
    have hb3 := hb.trans (hb2.mono hb.size)
    clear cc c0 c1 c2 hb hb2 hsz
    go_wp2_with fail
    (with_reducible refine (cs _ hb3).mono ?_)
    rintro e w3 ⟨rfl, rfl⟩
    clear cs
    go_wp2
    go_ret
    exact ⟨rfl, hb3⟩

set_option maxRecDepth 100000 in
set_option maxHeartbeats 4000000 in
theorem refkill_calls (v : Value) (d : Dev) (w : World) (h : DevV w v d) :
    Calls Try.prog 38 #[v] w (DevIs w (chk d) (if MayD d then ⟨List.replicate d.blocks.length [], [], true⟩ else ⟨[], [], false⟩)) := by
  have hv := h
  obtain ⟨A, n, C, hs, B, m, D, ht, rfl, h1, h2⟩ := h
  have hl1 := h1.len
  have hb : Below w.heap.size w ((w.alloc (.cells #[.slice A n C, .slice B m D, .bool d.dead] 25)).alloc (.cells #[.slice none 0 0, .slice none 0 0, .bool false] 25)) := ((Below.refl _ _).alloc (Nat.le_refl _) _).alloc (by simp) _
  have hsz : w.heap.size + 1 < ((w.alloc (.cells #[.slice A n C, .slice B m D, .bool d.dead] 25)).alloc (.cells #[.slice none 0 0, .slice none 0 0, .bool false] 25)).heap.size := by simp
  have cc := refmay_calls _ d _ (hv.below hb (Nat.le_refl _))
  have bx0 := (BoxD.new w (.slice A n C) (.slice B m D) (.bool d.dead)).alloc (.cells #[.slice none 0 0, .slice none 0 0, .bool false] 25)
  have bx1 := BoxD.new (w.alloc (.cells #[.slice A n C, .slice B m D, .bool d.dead] 25)) (.slice none 0 0) (.slice none 0 0) (.bool false)
  rw [World.size_alloc] at bx1
  by_cases hM : MayD d
  · rw [chk_may hM]
    rw [decide_eq_true hM] at cc
    rw [if_pos hM]
    have hn : n ≤ 256 := by have := hM.2.1; omega
    have hmk := make_hdrs n hn
    rw [hl1]
    clear hM hv h1 h2 hl1
    go_enter Try.func38, Try.ntmps38
    go_wp2_with fail
    (with_reducible refine cc.mono ?_)
    rintro e w2 ⟨rfl, hb2⟩
    have b0 := bx0.below hb2
    have b1 := bx1.below hb2
    have e0 := b0.c0
    have f0 := b1.c0
    have f1 := b1.c1
    have f2 := b1.c2
    have r0 := b1.fr (o := 0)
    have r1 := b1.fr (o := 1)
    have r2 := b1.fr (o := 2)
    have hz := Nat.lt_of_lt_of_le hsz hb2.size
    clear cc hsz bx0 bx1
    go_wp2
    have hsz3 : (((w2.setCell ⟨w.heap.size + 1, 0, none⟩ (.slice (some ⟨w2.heap.size, 0, none⟩) n n)).setCell ⟨w.heap.size + 1, 1, none⟩ (.slice none 0 0)).setCell ⟨w.heap.size + 1, 2, none⟩ (.bool true)).heap.size = w2.heap.size := by simp
    have hB : Below w.heap.size w (((w2.setCell ⟨w.heap.size + 1, 0, none⟩ (.slice (some ⟨w2.heap.size, 0, none⟩) n n)).setCell ⟨w.heap.size + 1, 1, none⟩ (.slice none 0 0)).setCell ⟨w.heap.size + 1, 2, none⟩ (.bool true)) := (((hb.trans (hb2.mono hb.size)).setCell (by simp) _).setCell (by simp) _).setCell (by simp) _
    have hN := none_dev w.heap.size _ n true hB.size rfl (by omega : n ≤ 300)
    rw [hsz3] at hN
    exact bodyPost_ret (v := .tuple #[.agg #[.slice (some ⟨w2.heap.size, 0, none⟩) n n, .slice none 0 0, .bool true], .int .i64 0]) (by simp [results, Try.results38, go_sem, f0, f1, f2, hz]) rfl ⟨_, rfl, hN, hB.alloc hB.size _⟩
  · rw [chk_not hM]
    rw [decide_eq_false hM] at cc
    rw [if_neg hM]
    clear hM hv h1 h2 hl1
    go_enter Try.func38, Try.ntmps38
    go_wp2_with fail
    (with_reducible refine cc.mono ?_)
    rintro e w2 ⟨rfl, hb2⟩
    have b1 := bx1.below hb2
    have f0 := b1.c0
    have f1 := b1.c1
    have f2 := b1.c2
    have r0 := b1.fr (o := 0)
    have r1 := b1.fr (o := 1)
    have r2 := b1.fr (o := 2)
    have hz := Nat.lt_of_lt_of_le hsz hb2.size
    clear cc hsz bx0 bx1
    go_wp2
    have hB : Below w.heap.size w (((w2.setCell ⟨w.heap.size + 1, 0, none⟩ (.slice none 0 0)).setCell ⟨w.heap.size + 1, 1, none⟩ (.slice none 0 0)).setCell ⟨w.heap.size + 1, 2, none⟩ (.bool false)) := (((hb.trans (hb2.mono hb.size)).setCell (by simp) _).setCell (by simp) _).setCell (by simp) _
    exact bodyPost_ret (v := .tuple #[noDev, .int .i64 8]) (by simp [results, Try.results38, go_sem, f0, f1, f2, noDev]) rfl ⟨_, rfl, noDev_is _ _, hB⟩
end Go.Proofs.Ytldgpkaecfgagaa
