/- freeboardlaw06.ShapeApart: for every input the law answers true, and what is handed in reads as it did. Conditions: none. -/
import Derived.Test.YtpejbcgnekllkaaShapeAlive
import Derived.Test.YtpejbcgnekllkaaShapeEq
namespace Go.Proofs.Ytpejbcgnekllkaa
open Go.ChangeShapes Go.WideShapes Go.ChangeAt Go.RowKit ShapeM

set_option maxRecDepth 100000 in
set_option maxHeartbeats 8000000 in
theorem shapeApart_walk (w : World) (c : Cfg) (_hw : Wide c) (o : Cfg) (_ho : Wide o) : Calls Try.prog 6 #[cfgV c, cfgV o] w fun e w' => e = .returned (.bool true) ∧ Below w.heap.size w w' := by
  have ka := fun W => alive_calls W
  have kc := fun W => check_calls c W
  have ko := fun W => check_calls o W
  by_cases h : MayC c
  case neg =>
    simp only [chkC_not h] at kc
    clear h ko
    obtain ⟨id, m, ch, ro, lo, he⟩ := c
    obtain ⟨id2, m2, ch2, ro2, lo2, he2⟩ := o
    unfold cfgV at *
    dsimp only at *
    have B := Box6.new w (.int .u32 id) (.int .i64 m) (.int .i64 ch) (.int .i64 ro) (.int .i64 lo) (.int .i64 he) 24
    have hb : Below w.heap.size w (w.alloc (.cells #[.int .u32 id, .int .i64 m, .int .i64 ch, .int .i64 ro, .int .i64 lo, .int .i64 he] 24 (0, 0))) := (Below.refl _ _).alloc (Nat.le_refl _) _
    generalize hW1 : w.alloc (.cells #[.int .u32 id, .int .i64 m, .int .i64 ch, .int .i64 ro, .int .i64 lo, .int .i64 he] 24 (0, 0)) = w1 at *
    have C := Box6.new w1 (.int .u32 id2) (.int .i64 m2) (.int .i64 ch2) (.int .i64 ro2) (.int .i64 lo2) (.int .i64 he2) 24
    replace B := B.below (w' := w1.alloc (.cells #[.int .u32 id2, .int .i64 m2, .int .i64 ch2, .int .i64 ro2, .int .i64 lo2, .int .i64 he2] 24 (0, 0))) ((Below.refl _ _).alloc (Nat.le_refl _) _) (Nat.le_refl _)
    replace hb := hb.alloc (o := .cells #[.int .u32 id2, .int .i64 m2, .int .i64 ch2, .int .i64 ro2, .int .i64 lo2, .int .i64 he2] 24 (0, 0)) hb.size
    subst hW1
    simp only [World.size_alloc] at B C hb
    obtain ⟨c0, c1, c2, c3, c4, c5⟩ := B.all
    obtain ⟨d0, d1, d2, d3, d4, d5⟩ := C.all
    go_enter Try.func6, Try.ntmps6
    go_wp2_with (first
      | (go_at_call 9; (with_reducible refine (ka _).mono ?_); rintro e w2 ⟨rfl, hb2⟩; replace hb := hb.trans (hb2.mono hb.size); clear c0 c1 c2 c3 c4 c5 d0 d1 d2 d3 d4 d5; replace B := B.below hb2 (Nat.le_refl _); replace C := C.below hb2 (Nat.le_refl _); obtain ⟨c0, c1, c2, c3, c4, c5⟩ := B.all; obtain ⟨d0, d1, d2, d3, d4, d5⟩ := C.all; have hlt := B.lt; have hlt2 := C.lt; have hf := B.fr 0; clear hb2)
      | (go_at_call 10; (with_reducible refine (kc _).mono ?_); rintro e w2 ⟨rfl, hb2⟩; replace hb := hb.trans (hb2.mono hb.size); clear c0 c1 c2 c3 c4 c5 d0 d1 d2 d3 d4 d5; replace B := B.below hb2 (Nat.le_refl _); replace C := C.below hb2 (Nat.le_refl _); obtain ⟨c0, c1, c2, c3, c4, c5⟩ := B.all; obtain ⟨d0, d1, d2, d3, d4, d5⟩ := C.all; have hlt := B.lt; have hlt2 := C.lt; have hf := B.fr 0; clear hb2))
    go_ret
    exact ⟨rfl, hb⟩
  by_cases h2 : MayC o
  case neg =>
    simp only [chkC_may h] at kc
    simp only [chkC_not h2] at ko
    clear h h2
    obtain ⟨id, m, ch, ro, lo, he⟩ := c
    obtain ⟨id2, m2, ch2, ro2, lo2, he2⟩ := o
    unfold cfgV at *
    dsimp only at *
    have B := Box6.new w (.int .u32 id) (.int .i64 m) (.int .i64 ch) (.int .i64 ro) (.int .i64 lo) (.int .i64 he) 24
    have hb : Below w.heap.size w (w.alloc (.cells #[.int .u32 id, .int .i64 m, .int .i64 ch, .int .i64 ro, .int .i64 lo, .int .i64 he] 24 (0, 0))) := (Below.refl _ _).alloc (Nat.le_refl _) _
    generalize hW1 : w.alloc (.cells #[.int .u32 id, .int .i64 m, .int .i64 ch, .int .i64 ro, .int .i64 lo, .int .i64 he] 24 (0, 0)) = w1 at *
    have C := Box6.new w1 (.int .u32 id2) (.int .i64 m2) (.int .i64 ch2) (.int .i64 ro2) (.int .i64 lo2) (.int .i64 he2) 24
    replace B := B.below (w' := w1.alloc (.cells #[.int .u32 id2, .int .i64 m2, .int .i64 ch2, .int .i64 ro2, .int .i64 lo2, .int .i64 he2] 24 (0, 0))) ((Below.refl _ _).alloc (Nat.le_refl _) _) (Nat.le_refl _)
    replace hb := hb.alloc (o := .cells #[.int .u32 id2, .int .i64 m2, .int .i64 ch2, .int .i64 ro2, .int .i64 lo2, .int .i64 he2] 24 (0, 0)) hb.size
    subst hW1
    simp only [World.size_alloc] at B C hb
    obtain ⟨c0, c1, c2, c3, c4, c5⟩ := B.all
    obtain ⟨d0, d1, d2, d3, d4, d5⟩ := C.all
    go_enter Try.func6, Try.ntmps6
    go_wp2_with (first
      | (go_at_call 9; (with_reducible refine (ka _).mono ?_); rintro e w2 ⟨rfl, hb2⟩; replace hb := hb.trans (hb2.mono hb.size); clear c0 c1 c2 c3 c4 c5 d0 d1 d2 d3 d4 d5; replace B := B.below hb2 (Nat.le_refl _); replace C := C.below hb2 (Nat.le_refl _); obtain ⟨c0, c1, c2, c3, c4, c5⟩ := B.all; obtain ⟨d0, d1, d2, d3, d4, d5⟩ := C.all; have hlt := B.lt; have hlt2 := C.lt; have hf := B.fr 0; clear hb2)
      | (go_at_call 10; (with_reducible refine (kc _).mono ?_); rintro e w2 ⟨rfl, hb2⟩; replace hb := hb.trans (hb2.mono hb.size); clear c0 c1 c2 c3 c4 c5 d0 d1 d2 d3 d4 d5; replace B := B.below hb2 (Nat.le_refl _); replace C := C.below hb2 (Nat.le_refl _); obtain ⟨c0, c1, c2, c3, c4, c5⟩ := B.all; obtain ⟨d0, d1, d2, d3, d4, d5⟩ := C.all; have hlt := B.lt; have hlt2 := C.lt; have hf := B.fr 0; clear hb2)
      | (go_at_call 10; (with_reducible refine (ko _).mono ?_); rintro e w2 ⟨rfl, hb2⟩; replace hb := hb.trans (hb2.mono hb.size); clear c0 c1 c2 c3 c4 c5 d0 d1 d2 d3 d4 d5; replace B := B.below hb2 (Nat.le_refl _); replace C := C.below hb2 (Nat.le_refl _); obtain ⟨c0, c1, c2, c3, c4, c5⟩ := B.all; obtain ⟨d0, d1, d2, d3, d4, d5⟩ := C.all; have hlt := B.lt; have hlt2 := C.lt; have hf := B.fr 0; clear hb2))
    go_ret
    exact ⟨rfl, hb⟩
  have k0 := fun W => stripes_told c W
  have o0 := fun W => stripes_told o W
  have k1 := fun W => blocks_told c W
  have o1 := fun W => blocks_told o W
  have k4 := fun W => journal_told c W
  have o4 := fun W => journal_told o W
  simp only [numC_may h, chkC_may h] at kc k0 k1 k4
  simp only [numC_may h2, chkC_may h2] at ko o0 o1 o4
  have ap := apart h h2
  have eq := fun W i => cfg_eql W i c.mem c.chunk c.rows c.log c.heads i o.mem o.chunk o.rows o.log o.heads
  have hx : (Hid (c.mem = o.mem ∧ c.chunk = o.chunk ∧ c.rows = o.rows ∧ c.log = o.log ∧ c.heads = o.heads)) ∨ (Hid (¬ (c.mem = o.mem ∧ c.chunk = o.chunk ∧ c.rows = o.rows ∧ c.log = o.log ∧ c.heads = o.heads)) ∧
      ((strC c == strC o) = false ∨ ((strC c == strC o) = true ∧ (blkC c == blkC o) = false) ∨ ((strC c == strC o) = true ∧ (blkC c == blkC o) = true ∧ (c.log + 1 == o.log + 1) = false) ∨ ((strC c == strC o) = true ∧ (blkC c == blkC o) = true ∧ (c.log + 1 == o.log + 1) = true ∧ (c.heads == o.heads) = false) ∨ ((strC c == strC o) = true ∧ (blkC c == blkC o) = true ∧ (c.log + 1 == o.log + 1) = true ∧ (c.heads == o.heads) = true ∧ (c.chunk == o.chunk) = false))) := by
    by_cases q : c.mem = o.mem ∧ c.chunk = o.chunk ∧ c.rows = o.rows ∧ c.log = o.log ∧ c.heads = o.heads
    · exact .inl q
    · refine .inr ⟨q, ?_⟩
      simp only [beq_eq_false_iff_ne, beq_iff_eq, ne_eq]
      rw [← ap] at q
      by_cases q1 : strC c = strC o
      · by_cases q2 : blkC c = blkC o
        · by_cases q3 : c.log + 1 = o.log + 1
          · by_cases q4 : c.heads = o.heads
            · exact .inr (.inr (.inr (.inr ⟨q1, q2, q3, q4, fun q5 => q ⟨q1, q2, q3, q4, q5⟩⟩)))
            · exact .inr (.inr (.inr (.inl ⟨q1, q2, q3, q4⟩)))
          · exact .inr (.inr (.inl ⟨q1, q2, q3⟩))
        · exact .inr (.inl ⟨q1, q2⟩)
      · exact .inl q1
  rcases hx with hx | ⟨hx, hy⟩
  · obtain ⟨e1, e2, e3, e4, e5⟩ := hx.out
    have es := strC c
    have q1 : strC c = strC o := by unfold strC; rw [e2, e3]
    have q2 : blkC c = blkC o := by unfold blkC; rw [e1, q1]
    simp only [q1, q2, e1, e2, e3, e4, e5, and_self, decide_true] at k0 k1 k4 eq
    clear ap hx q1 q2 h h2
    generalize strC o = n0 at *
    generalize blkC o = n1 at *
    obtain ⟨id, m, ch, ro, lo, he⟩ := c
    obtain ⟨id2, m2, ch2, ro2, lo2, he2⟩ := o
    unfold cfgV at *
    dsimp only at *
    subst e1 e2 e3 e4 e5
    generalize lo + 1 = n4 at *
    have B := Box6.new w (.int .u32 id) (.int .i64 m) (.int .i64 ch) (.int .i64 ro) (.int .i64 lo) (.int .i64 he) 24
    have hb : Below w.heap.size w (w.alloc (.cells #[.int .u32 id, .int .i64 m, .int .i64 ch, .int .i64 ro, .int .i64 lo, .int .i64 he] 24 (0, 0))) := (Below.refl _ _).alloc (Nat.le_refl _) _
    generalize hW1 : w.alloc (.cells #[.int .u32 id, .int .i64 m, .int .i64 ch, .int .i64 ro, .int .i64 lo, .int .i64 he] 24 (0, 0)) = w1 at *
    have C := Box6.new w1 (.int .u32 id2) (.int .i64 m) (.int .i64 ch) (.int .i64 ro) (.int .i64 lo) (.int .i64 he) 24
    replace B := B.below (w' := w1.alloc (.cells #[.int .u32 id2, .int .i64 m, .int .i64 ch, .int .i64 ro, .int .i64 lo, .int .i64 he] 24 (0, 0))) ((Below.refl _ _).alloc (Nat.le_refl _) _) (Nat.le_refl _)
    replace hb := hb.alloc (o := .cells #[.int .u32 id2, .int .i64 m, .int .i64 ch, .int .i64 ro, .int .i64 lo, .int .i64 he] 24 (0, 0)) hb.size
    subst hW1
    simp only [World.size_alloc] at B C hb
    obtain ⟨c0, c1, c2, c3, c4, c5⟩ := B.all
    obtain ⟨d0, d1, d2, d3, d4, d5⟩ := C.all
    go_enter Try.func6, Try.ntmps6
    go_wp2_with (first
      | (go_at_call 9; (with_reducible refine (ka _).mono ?_); rintro e w2 ⟨rfl, hb2⟩; replace hb := hb.trans (hb2.mono hb.size); clear c0 c1 c2 c3 c4 c5 d0 d1 d2 d3 d4 d5; replace B := B.below hb2 (Nat.le_refl _); replace C := C.below hb2 (Nat.le_refl _); obtain ⟨c0, c1, c2, c3, c4, c5⟩ := B.all; obtain ⟨d0, d1, d2, d3, d4, d5⟩ := C.all; have hlt := B.lt; have hlt2 := C.lt; have hf := B.fr 0; clear hb2)
      | (go_at_call 10; (with_reducible refine (kc _).mono ?_); rintro e w2 ⟨rfl, hb2⟩; replace hb := hb.trans (hb2.mono hb.size); clear c0 c1 c2 c3 c4 c5 d0 d1 d2 d3 d4 d5; replace B := B.below hb2 (Nat.le_refl _); replace C := C.below hb2 (Nat.le_refl _); obtain ⟨c0, c1, c2, c3, c4, c5⟩ := B.all; obtain ⟨d0, d1, d2, d3, d4, d5⟩ := C.all; have hlt := B.lt; have hlt2 := C.lt; have hf := B.fr 0; clear hb2)
      | (go_at_call 10; (with_reducible refine (ko _).mono ?_); rintro e w2 ⟨rfl, hb2⟩; replace hb := hb.trans (hb2.mono hb.size); clear c0 c1 c2 c3 c4 c5 d0 d1 d2 d3 d4 d5; replace B := B.below hb2 (Nat.le_refl _); replace C := C.below hb2 (Nat.le_refl _); obtain ⟨c0, c1, c2, c3, c4, c5⟩ := B.all; obtain ⟨d0, d1, d2, d3, d4, d5⟩ := C.all; have hlt := B.lt; have hlt2 := C.lt; have hf := B.fr 0; clear hb2)
      | (go_at_call 11; (with_reducible refine (k0 _).mono ?_); rintro e w2 ⟨rfl, hb2⟩; replace hb := hb.trans (hb2.mono hb.size); clear c0 c1 c2 c3 c4 c5 d0 d1 d2 d3 d4 d5; replace B := B.below hb2 (Nat.le_refl _); replace C := C.below hb2 (Nat.le_refl _); obtain ⟨c0, c1, c2, c3, c4, c5⟩ := B.all; obtain ⟨d0, d1, d2, d3, d4, d5⟩ := C.all; have hlt := B.lt; have hlt2 := C.lt; have hf := B.fr 0; clear hb2)
      | (go_at_call 11; (with_reducible refine (o0 _).mono ?_); rintro e w2 ⟨rfl, hb2⟩; replace hb := hb.trans (hb2.mono hb.size); clear c0 c1 c2 c3 c4 c5 d0 d1 d2 d3 d4 d5; replace B := B.below hb2 (Nat.le_refl _); replace C := C.below hb2 (Nat.le_refl _); obtain ⟨c0, c1, c2, c3, c4, c5⟩ := B.all; obtain ⟨d0, d1, d2, d3, d4, d5⟩ := C.all; have hlt := B.lt; have hlt2 := C.lt; have hf := B.fr 0; clear hb2)
      | (go_at_call 12; (with_reducible refine (k1 _).mono ?_); rintro e w2 ⟨rfl, hb2⟩; replace hb := hb.trans (hb2.mono hb.size); clear c0 c1 c2 c3 c4 c5 d0 d1 d2 d3 d4 d5; replace B := B.below hb2 (Nat.le_refl _); replace C := C.below hb2 (Nat.le_refl _); obtain ⟨c0, c1, c2, c3, c4, c5⟩ := B.all; obtain ⟨d0, d1, d2, d3, d4, d5⟩ := C.all; have hlt := B.lt; have hlt2 := C.lt; have hf := B.fr 0; clear hb2)
      | (go_at_call 12; (with_reducible refine (o1 _).mono ?_); rintro e w2 ⟨rfl, hb2⟩; replace hb := hb.trans (hb2.mono hb.size); clear c0 c1 c2 c3 c4 c5 d0 d1 d2 d3 d4 d5; replace B := B.below hb2 (Nat.le_refl _); replace C := C.below hb2 (Nat.le_refl _); obtain ⟨c0, c1, c2, c3, c4, c5⟩ := B.all; obtain ⟨d0, d1, d2, d3, d4, d5⟩ := C.all; have hlt := B.lt; have hlt2 := C.lt; have hf := B.fr 0; clear hb2)
      | (go_at_call 15; (with_reducible refine (k4 _).mono ?_); rintro e w2 ⟨rfl, hb2⟩; replace hb := hb.trans (hb2.mono hb.size); clear c0 c1 c2 c3 c4 c5 d0 d1 d2 d3 d4 d5; replace B := B.below hb2 (Nat.le_refl _); replace C := C.below hb2 (Nat.le_refl _); obtain ⟨c0, c1, c2, c3, c4, c5⟩ := B.all; obtain ⟨d0, d1, d2, d3, d4, d5⟩ := C.all; have hlt := B.lt; have hlt2 := C.lt; have hf := B.fr 0; clear hb2)
      | (go_at_call 15; (with_reducible refine (o4 _).mono ?_); rintro e w2 ⟨rfl, hb2⟩; replace hb := hb.trans (hb2.mono hb.size); clear c0 c1 c2 c3 c4 c5 d0 d1 d2 d3 d4 d5; replace B := B.below hb2 (Nat.le_refl _); replace C := C.below hb2 (Nat.le_refl _); obtain ⟨c0, c1, c2, c3, c4, c5⟩ := B.all; obtain ⟨d0, d1, d2, d3, d4, d5⟩ := C.all; have hlt := B.lt; have hlt2 := C.lt; have hf := B.fr 0; clear hb2))
    go_ret
    exact ⟨rfl, by first | exact hb | exact hb.setCell (by simp) _⟩
  · have E : decide (c.mem = o.mem ∧ c.chunk = o.chunk ∧ c.rows = o.rows ∧ c.log = o.log ∧ c.heads = o.heads) = false := decide_eq_false hx.out
    simp only [true_and, E] at eq
    clear ap hx h h2 E
    generalize c.log + 1 = n4 at *
    generalize o.log + 1 = p4 at *
    generalize strC c = n0 at *
    generalize strC o = p0 at *
    generalize blkC c = n1 at *
    generalize blkC o = p1 at *
    obtain ⟨id, m, ch, ro, lo, he⟩ := c
    obtain ⟨id2, m2, ch2, ro2, lo2, he2⟩ := o
    unfold cfgV at *
    dsimp only at *
    have B := Box6.new w (.int .u32 id) (.int .i64 m) (.int .i64 ch) (.int .i64 ro) (.int .i64 lo) (.int .i64 he) 24
    have hb : Below w.heap.size w (w.alloc (.cells #[.int .u32 id, .int .i64 m, .int .i64 ch, .int .i64 ro, .int .i64 lo, .int .i64 he] 24 (0, 0))) := (Below.refl _ _).alloc (Nat.le_refl _) _
    generalize hW1 : w.alloc (.cells #[.int .u32 id, .int .i64 m, .int .i64 ch, .int .i64 ro, .int .i64 lo, .int .i64 he] 24 (0, 0)) = w1 at *
    have C := Box6.new w1 (.int .u32 id2) (.int .i64 m2) (.int .i64 ch2) (.int .i64 ro2) (.int .i64 lo2) (.int .i64 he2) 24
    replace B := B.below (w' := w1.alloc (.cells #[.int .u32 id2, .int .i64 m2, .int .i64 ch2, .int .i64 ro2, .int .i64 lo2, .int .i64 he2] 24 (0, 0))) ((Below.refl _ _).alloc (Nat.le_refl _) _) (Nat.le_refl _)
    replace hb := hb.alloc (o := .cells #[.int .u32 id2, .int .i64 m2, .int .i64 ch2, .int .i64 ro2, .int .i64 lo2, .int .i64 he2] 24 (0, 0)) hb.size
    subst hW1
    simp only [World.size_alloc] at B C hb
    obtain ⟨c0, c1, c2, c3, c4, c5⟩ := B.all
    obtain ⟨d0, d1, d2, d3, d4, d5⟩ := C.all
    rcases hy with y0 | ⟨y0, y1⟩ | ⟨y0, y1, y2⟩ | ⟨y0, y1, y2, y3⟩ | ⟨y0, y1, y2, y3, y4⟩
    all_goals
      go_enter Try.func6, Try.ntmps6
      go_wp2_with (first
      | (go_at_call 9; (with_reducible refine (ka _).mono ?_); rintro e w2 ⟨rfl, hb2⟩; replace hb := hb.trans (hb2.mono hb.size); clear c0 c1 c2 c3 c4 c5 d0 d1 d2 d3 d4 d5; replace B := B.below hb2 (Nat.le_refl _); replace C := C.below hb2 (Nat.le_refl _); obtain ⟨c0, c1, c2, c3, c4, c5⟩ := B.all; obtain ⟨d0, d1, d2, d3, d4, d5⟩ := C.all; have hlt := B.lt; have hlt2 := C.lt; have hf := B.fr 0; clear hb2)
      | (go_at_call 10; (with_reducible refine (kc _).mono ?_); rintro e w2 ⟨rfl, hb2⟩; replace hb := hb.trans (hb2.mono hb.size); clear c0 c1 c2 c3 c4 c5 d0 d1 d2 d3 d4 d5; replace B := B.below hb2 (Nat.le_refl _); replace C := C.below hb2 (Nat.le_refl _); obtain ⟨c0, c1, c2, c3, c4, c5⟩ := B.all; obtain ⟨d0, d1, d2, d3, d4, d5⟩ := C.all; have hlt := B.lt; have hlt2 := C.lt; have hf := B.fr 0; clear hb2)
      | (go_at_call 10; (with_reducible refine (ko _).mono ?_); rintro e w2 ⟨rfl, hb2⟩; replace hb := hb.trans (hb2.mono hb.size); clear c0 c1 c2 c3 c4 c5 d0 d1 d2 d3 d4 d5; replace B := B.below hb2 (Nat.le_refl _); replace C := C.below hb2 (Nat.le_refl _); obtain ⟨c0, c1, c2, c3, c4, c5⟩ := B.all; obtain ⟨d0, d1, d2, d3, d4, d5⟩ := C.all; have hlt := B.lt; have hlt2 := C.lt; have hf := B.fr 0; clear hb2)
      | (go_at_call 11; (with_reducible refine (k0 _).mono ?_); rintro e w2 ⟨rfl, hb2⟩; replace hb := hb.trans (hb2.mono hb.size); clear c0 c1 c2 c3 c4 c5 d0 d1 d2 d3 d4 d5; replace B := B.below hb2 (Nat.le_refl _); replace C := C.below hb2 (Nat.le_refl _); obtain ⟨c0, c1, c2, c3, c4, c5⟩ := B.all; obtain ⟨d0, d1, d2, d3, d4, d5⟩ := C.all; have hlt := B.lt; have hlt2 := C.lt; have hf := B.fr 0; clear hb2)
      | (go_at_call 11; (with_reducible refine (o0 _).mono ?_); rintro e w2 ⟨rfl, hb2⟩; replace hb := hb.trans (hb2.mono hb.size); clear c0 c1 c2 c3 c4 c5 d0 d1 d2 d3 d4 d5; replace B := B.below hb2 (Nat.le_refl _); replace C := C.below hb2 (Nat.le_refl _); obtain ⟨c0, c1, c2, c3, c4, c5⟩ := B.all; obtain ⟨d0, d1, d2, d3, d4, d5⟩ := C.all; have hlt := B.lt; have hlt2 := C.lt; have hf := B.fr 0; clear hb2)
      | (go_at_call 12; (with_reducible refine (k1 _).mono ?_); rintro e w2 ⟨rfl, hb2⟩; replace hb := hb.trans (hb2.mono hb.size); clear c0 c1 c2 c3 c4 c5 d0 d1 d2 d3 d4 d5; replace B := B.below hb2 (Nat.le_refl _); replace C := C.below hb2 (Nat.le_refl _); obtain ⟨c0, c1, c2, c3, c4, c5⟩ := B.all; obtain ⟨d0, d1, d2, d3, d4, d5⟩ := C.all; have hlt := B.lt; have hlt2 := C.lt; have hf := B.fr 0; clear hb2)
      | (go_at_call 12; (with_reducible refine (o1 _).mono ?_); rintro e w2 ⟨rfl, hb2⟩; replace hb := hb.trans (hb2.mono hb.size); clear c0 c1 c2 c3 c4 c5 d0 d1 d2 d3 d4 d5; replace B := B.below hb2 (Nat.le_refl _); replace C := C.below hb2 (Nat.le_refl _); obtain ⟨c0, c1, c2, c3, c4, c5⟩ := B.all; obtain ⟨d0, d1, d2, d3, d4, d5⟩ := C.all; have hlt := B.lt; have hlt2 := C.lt; have hf := B.fr 0; clear hb2)
      | (go_at_call 15; (with_reducible refine (k4 _).mono ?_); rintro e w2 ⟨rfl, hb2⟩; replace hb := hb.trans (hb2.mono hb.size); clear c0 c1 c2 c3 c4 c5 d0 d1 d2 d3 d4 d5; replace B := B.below hb2 (Nat.le_refl _); replace C := C.below hb2 (Nat.le_refl _); obtain ⟨c0, c1, c2, c3, c4, c5⟩ := B.all; obtain ⟨d0, d1, d2, d3, d4, d5⟩ := C.all; have hlt := B.lt; have hlt2 := C.lt; have hf := B.fr 0; clear hb2)
      | (go_at_call 15; (with_reducible refine (o4 _).mono ?_); rintro e w2 ⟨rfl, hb2⟩; replace hb := hb.trans (hb2.mono hb.size); clear c0 c1 c2 c3 c4 c5 d0 d1 d2 d3 d4 d5; replace B := B.below hb2 (Nat.le_refl _); replace C := C.below hb2 (Nat.le_refl _); obtain ⟨c0, c1, c2, c3, c4, c5⟩ := B.all; obtain ⟨d0, d1, d2, d3, d4, d5⟩ := C.all; have hlt := B.lt; have hlt2 := C.lt; have hf := B.fr 0; clear hb2))
      go_ret
      exact ⟨rfl, by first | exact hb | exact hb.setCell (by simp) _⟩


namespace shapeApart
set_option linter.unusedVariables false
set_option maxRecDepth 100000 in
theorem lifted (os : Os) (started : os.Started) (H : Type) (enc : TypeId × Value → H) :
    ReturnsInHanded {} Try.checked os 6 .any (Rows.shapeApartSpec.pre6 enc Try.prog Try.f6 Rows.shapeApartRow.domain false) (Rows.shapeApartSpec.post enc Try.prog Try.f6 false true false false) := by
  refine returnsInHanded_of_change (C := Try.checked) Try.own started (by kernel_rfl) Try.func6
    (ChangeSpec.witness6 (enc := enc) (C := Try.checked) false ⟨#[], #[.agg #[.int .u32 0, .int .i64 0, .int .i64 0, .int .i64 0, .int .i64 0, .int .i64 0], .agg #[.int .u32 0, .int .i64 0, .int .i64 0, .int .i64 0, .int .i64 0, .int .i64 0]], []⟩ 8 (by kernel_rfl) (by kernel_rfl) (by kernel_rfl) (by kernel_rfl)) ?_
  intro W base args ds gs before hval0 hW hcnd _
  have hval : ∀ (j : Nat) t v, Try.f6.params[j]? = some t → args[j]? = some v → Value.okWide Try.prog W .any base t v := hval0
  have hW' := hW
  obtain ⟨p, q, hA0, hV, rfl, hfz, hnd⟩ := hW
  have hA : DataW.TrodAll enc Try.prog W 0 (fun _ => true) true Try.f6.params.toList args.toList ds p := hA0
  rw [Try.params6] at hA hval
  obtain ⟨v0, vs0, d0, ds0, p0, q0, hargs, rfl, rfl, h0, r0⟩ := trodAll_cons hA
  obtain ⟨v1, vs1, d1, ds1, p1, q1, rfl, rfl, rfl, h1, r1⟩ := trodAll_cons r0
  obtain ⟨rfl, rfl, rfl⟩ := trodAll_nil r1
  obtain rfl : args = #[v0, v1] := by cases args; simp_all
  obtain ⟨rfl, rfl⟩ := trodVars_none hV
  have k0 := h0
  have lt0 : ∀ x ∈ p0, x.block < W.heap.size := by obtain ⟨m, hm⟩ := k0; exact DataW.trod_lt m _ _ _ hm
  obtain ⟨z0, rfl, w0⟩ := cfg_in (hval 0 24 v0 rfl rfl) h0
  have k1 := h1
  have lt1 : ∀ x ∈ p1, x.block < W.heap.size := by obtain ⟨m, hm⟩ := k1; exact DataW.trod_lt m _ _ _ hm
  obtain ⟨z1, rfl, w1⟩ := cfg_in (hval 1 24 v1 rfl rfl) h1
  clear hA0 hval0
  refine (shapeApart_walk W z0 w0 z1 w1).mono fun e W' ⟨he, bel⟩ => ?_
  subst he
  exact ⟨_, rfl, _, _, _, [], _, [], hW', trodAll_mk1 (shut_bool Try.underlying4 _), (trodAll_cons_mk (Below.trod Try.laidOut (by kernel_rfl) (of_decide_eq_true (by kernel_rfl)) k0 bel lt0) (trodAll_cons_mk (Below.trod Try.laidOut (by kernel_rfl) (of_decide_eq_true (by kernel_rfl)) k1 bel lt1) trodAll_mk0)), rfl, bel.frame _, fun h => by cases h⟩

theorem holds : Rows.ShapeApartSaid :=
  OpenClaim.holds_of_wide 6 Try.f6 rfl rfl rfl rfl rfl rfl rfl ⟨rfl, rfl, rfl, rfl, rfl⟩ rfl rfl rfl rfl rfl (by kernel_rfl) Try.func6 (by kernel_rfl)
    (of_decide_eq_true (by kernel_rfl)) (by unfold Func.isWrapper; first | (rw [if_pos (by decide +kernel)]; kernel_rfl) | (rw [if_neg (by decide +kernel)]; exact ⟨rfl, rfl⟩))
    (fun os started H enc _ => lifted os started H enc)
end shapeApart
end Go.Proofs.Ytpejbcgnekllkaa
