/- freeboardlaw07.TurnBack: for every input the law answers true, and what is handed in reads as it did. Conditions: none. -/
import Derived.Test.YtilcmkaibfolcaaTurnAlive
namespace Go.Proofs.Ytilcmkaibfolcaa
open Go.ChangeShapes Go.WideShapes Go.ChangeAt Go.RowKit ShapeM TurnM
set_option linter.unusedVariables false

theorem okE_zero7 {c : Cfg} {b : Bool} (h : okE c b = 0) : MayC c ∧ b = true := by
  unfold okE at h
  by_cases q : MayC c
  · rw [if_pos q] at h
    cases b
    · exact absurd h (by decide)
    · exact ⟨q, rfl⟩
  · rw [if_neg q] at h
    exact absurd h (by decide)

set_option maxRecDepth 100000 in
set_option maxHeartbeats 4000000 in
theorem turnBack_walk (w : World) (c : Cfg) (_hw : Wide c) (b : Int) (_wb : (Lit.int .i64 b).wf = true) (s : Int) (_ws : (Lit.int .i64 s).wf = true) (n : Int) (_wn : (Lit.int .i64 n).wf = true) : Calls Try.prog 5 #[cfgV c, .int .i64 b, .int .i64 s, .int .i64 n] w fun e w' => e = .returned (.bool true) ∧ Below w.heap.size w w' := by
  have ka := fun W => alive7_calls W
  have q1 := fun W => turnSpot c b W
  have q4 := fun W => turnSlot c s n W
  have hx : ((eSpot c b ≠ 0 ∧ Hid (pickE (eSpot c b) (vSpS c b) = 0 ∧ pickE (eSpot c b) (vSpK c b) = 0 ∧ pickE (eSpot c b) (vSpM c b) = 0)) ∨ (eSpot c b = 0 ∧ Hid (eBlk c (vSpS c b) (vSpK c b) = 0 ∧ vBlk c (vSpS c b) (vSpK c b) = b ∧ eMem c (vSpS c b) (vSpK c b) = 0 ∧ vMem c (vSpS c b) (vSpK c b) = vSpM c b))) := by
    by_cases h : MayC c
    · cases hb : amongB b (blkC c)
      · refine .inl ?_
        have : eSpot c b = 2 := by unfold eSpot; rw [hb]; exact okE_arg h
        rw [this]
        exact ⟨by decide, Lib.hid ⟨rfl, rfl, rfl⟩⟩
      · have q := back_spot h hb
        exact .inr ⟨q.1, Lib.hid q.2⟩
    · refine .inl ?_
      have : eSpot c b = 8 := okE_no h _
      rw [this]
      exact ⟨by decide, Lib.hid ⟨rfl, rfl, rfl⟩⟩
  have hy : (eMem c s n ≠ 0) ∨ (3 ≤ c.mem ∧ c.mem ≤ 16 ∧ eMem c s n = 0 ∧ Hid (eMem c s (vSlot c s n) = 0 ∧ vMem c s (vSlot c s n) = n ∧ ePar c s = 0 ∧ (vSlot c s n = c.mem - 1 ↔ vPar c s = n) ∧ (vSlot c s n ≠ c.mem - 1 → eBlk c s (vSlot c s n) = 0 ∧ eSpot c (vBlk c s (vSlot c s n)) = 0 ∧ vSpS c (vBlk c s (vSlot c s n)) = s ∧ vSpK c (vBlk c s (vSlot c s n)) = vSlot c s n ∧ vSpM c (vBlk c s (vSlot c s n)) = n))) := by
    by_cases h : eMem c s n = 0
    · refine .inr ?_
      obtain ⟨hM, q⟩ := okE_zero7 h
      rw [Bool.and_eq_true] at q
      have r := back_slot hM q.1 q.2
      exact ⟨hM.1, hM.2.1, h, Lib.hid r.2⟩
    · exact .inl h
  have q2 := fun W => turnBlock c (vSpS c b) (vSpK c b) W
  have q3 := fun W => turnMember c (vSpS c b) (vSpK c b) W
  have q5 := fun W => turnMember c s (vSlot c s n) W
  have q6 := fun W => turnParity c s W
  have q7 := fun W => turnBlock c s (vSlot c s n) W
  have q8 := fun W => turnSpot c (vBlk c s (vSlot c s n)) W
  have hz : (eMem c s n ≠ 0) ∨ (3 ≤ c.mem ∧ c.mem ≤ 16 ∧ eMem c s n = 0 ∧ Hid (eMem c s (vSlot c s n) = 0 ∧ vMem c s (vSlot c s n) = n ∧ ePar c s = 0) ∧ (((vSlot c s n == c.mem - 1) = true ∧ (vPar c s == n) = true) ∨ ((vSlot c s n == c.mem - 1) = false ∧ (vPar c s == n) = false ∧ Hid (eBlk c s (vSlot c s n) = 0 ∧ eSpot c (vBlk c s (vSlot c s n)) = 0 ∧ vSpS c (vBlk c s (vSlot c s n)) = s ∧ vSpK c (vBlk c s (vSlot c s n)) = vSlot c s n ∧ vSpM c (vBlk c s (vSlot c s n)) = n)))) := by
    rcases hy with h | ⟨h1, h2, h3, h4⟩
    · exact .inl h
    · obtain ⟨g1, g2, g3, g4, g5⟩ := h4.out
      refine .inr ⟨h1, h2, h3, Lib.hid ⟨g1, g2, g3⟩, ?_⟩
      by_cases q : vSlot c s n = c.mem - 1
      · exact .inl ⟨by simpa using q, by simpa using g4.1 q⟩
      · exact .inr ⟨by simpa using q, by simpa using fun e => q (g4.2 e), Lib.hid (g5 q)⟩
  clear hy
  generalize vSpS c b = x at *
  generalize vSpK c b = y at *
  generalize vSpM c b = z at *
  generalize eSpot c b = e1 at *
  generalize eMem c s n = e4 at *
  generalize vSlot c s n = k at *
  generalize vPar c s = p at *
  generalize hbk : vBlk c s k = b2 at *
  clear hbk
  clear _hw
  have eq := fun W => spot_eql W s k n s k n
  simp only [and_self, decide_true] at eq
  unfold spotV at *
  rcases hx with ⟨h1, hG⟩ | ⟨h1, hG⟩
  · obtain ⟨f1, f2, f3⟩ := hG.out
    simp only [f1, f2, f3] at q1
    clear q2 q3 f1 f2 f3 hG
    rcases hz with hz | ⟨hm1, hm2, hz3, hE, ⟨hk, hp⟩ | ⟨hk, hp, hF⟩⟩
    · clear q5 q6 q7 q8 eq
      generalize pickE e4 k = k4 at *
      obtain ⟨id, m, ch, ro, lo, he⟩ := c
      unfold cfgV at *
      dsimp only at *
      have B := Box6.new w (.int .u32 id) (.int .i64 m) (.int .i64 ch) (.int .i64 ro) (.int .i64 lo) (.int .i64 he) 27
      have hb : Below w.heap.size w (w.alloc (.cells #[.int .u32 id, .int .i64 m, .int .i64 ch, .int .i64 ro, .int .i64 lo, .int .i64 he] 27 (0, 0))) := (Below.refl _ _).alloc (Nat.le_refl _) _
      obtain ⟨c0, c1, c2, c3, c4, c5⟩ := B.all
      go_enter Try.func5, Try.ntmps5
      go_wp2_with (first
        | (go_at_call 13; refine (ka _).mono ?_; rintro e w2 ⟨rfl, hb2⟩; replace hb := hb.trans (hb2.mono hb.size); clear c0 c1 c2 c3 c4 c5; replace B := B.below hb2 (Nat.le_refl _); obtain ⟨c0, c1, c2, c3, c4, c5⟩ := B.all; clear hb2)
        | (go_at_call 12; refine (q1 _).mono ?_; rintro e w2 ⟨rfl, hb2⟩; replace hb := hb.trans (hb2.mono hb.size); clear c0 c1 c2 c3 c4 c5; replace B := B.below hb2 (Nat.le_refl _); obtain ⟨c0, c1, c2, c3, c4, c5⟩ := B.all; clear hb2; have hlt := B.lt))
      refine (q4 _).mono ?_
      rintro e w3 ⟨rfl, hb2⟩
      have D := (CellsAt.new w2 [.int .i64 0, .int .i64 0, .int .i64 0] 30).below hb2 (Nat.le_refl _)
      replace B := (B.below ((Below.refl _ _).alloc (Nat.le_refl _) (.cells #[.int .i64 0, .int .i64 0, .int .i64 0] 30 (0, 0))) (Nat.le_refl _)).below hb2 (Nat.le_refl _)
      replace hb := (hb.alloc hb.size (.cells #[.int .i64 0, .int .i64 0, .int .i64 0] 30 (0, 0))).trans (hb2.mono (by have := hb.size; simp; omega))
      clear c0 c1 c2 c3 c4 c5 hb2 hlt
      obtain ⟨c0, c1, c2, c3, c4, c5⟩ := B.all
      obtain ⟨d0, d1, d2⟩ := D.all3
      go_wp2_with fail
      go_ret
      exact ⟨rfl, hb⟩
    · obtain ⟨g1, g2, g3⟩ := hE.out
      simp only [g1, g2, g3, hz3, pickE_0] at q4 q5 q6
      clear q7 q8 g1 g2 g3 hE hz3 eq
      obtain ⟨id, m, ch, ro, lo, he⟩ := c
      unfold cfgV at *
      dsimp only at *
      have B := Box6.new w (.int .u32 id) (.int .i64 m) (.int .i64 ch) (.int .i64 ro) (.int .i64 lo) (.int .i64 he) 27
      have hb : Below w.heap.size w (w.alloc (.cells #[.int .u32 id, .int .i64 m, .int .i64 ch, .int .i64 ro, .int .i64 lo, .int .i64 he] 27 (0, 0))) := (Below.refl _ _).alloc (Nat.le_refl _) _
      obtain ⟨c0, c1, c2, c3, c4, c5⟩ := B.all
      go_enter Try.func5, Try.ntmps5
      go_wp2_with (first
        | (go_at_call 13; refine (ka _).mono ?_; rintro e w2 ⟨rfl, hb2⟩; replace hb := hb.trans (hb2.mono hb.size); clear c0 c1 c2 c3 c4 c5; replace B := B.below hb2 (Nat.le_refl _); obtain ⟨c0, c1, c2, c3, c4, c5⟩ := B.all; clear hb2)
        | (go_at_call 12; refine (q1 _).mono ?_; rintro e w2 ⟨rfl, hb2⟩; replace hb := hb.trans (hb2.mono hb.size); clear c0 c1 c2 c3 c4 c5; replace B := B.below hb2 (Nat.le_refl _); obtain ⟨c0, c1, c2, c3, c4, c5⟩ := B.all; clear hb2; have hlt := B.lt))
      refine (q4 _).mono ?_
      rintro e w3 ⟨rfl, hb2⟩
      have D := (CellsAt.new w2 [.int .i64 0, .int .i64 0, .int .i64 0] 30).below hb2 (Nat.le_refl _)
      replace B := (B.below ((Below.refl _ _).alloc (Nat.le_refl _) (.cells #[.int .i64 0, .int .i64 0, .int .i64 0] 30 (0, 0))) (Nat.le_refl _)).below hb2 (Nat.le_refl _)
      replace hb := (hb.alloc hb.size (.cells #[.int .i64 0, .int .i64 0, .int .i64 0] 30 (0, 0))).trans (hb2.mono (by have := hb.size; simp; omega))
      clear c0 c1 c2 c3 c4 c5 hb2 hlt
      obtain ⟨c0, c1, c2, c3, c4, c5⟩ := B.all
      obtain ⟨d0, d1, d2⟩ := D.all3
      go_wp2_with (first
        | (go_at_call 10; (with_reducible refine (q5 _).mono ?_); rintro e w2 ⟨rfl, hb2⟩; replace hb := hb.trans (hb2.mono hb.size); clear c0 c1 c2 c3 c4 c5 d0 d1 d2; replace B := B.below hb2 (Nat.le_refl _); replace D := D.below hb2 (Nat.le_refl _); obtain ⟨c0, c1, c2, c3, c4, c5⟩ := B.all; obtain ⟨d0, d1, d2⟩ := D.all3; clear hb2)
        | (go_at_call 16; (with_reducible refine (q6 _).mono ?_); rintro e w2 ⟨rfl, hb2⟩; replace hb := hb.trans (hb2.mono hb.size); clear c0 c1 c2 c3 c4 c5 d0 d1 d2; replace B := B.below hb2 (Nat.le_refl _); replace D := D.below hb2 (Nat.le_refl _); obtain ⟨c0, c1, c2, c3, c4, c5⟩ := B.all; obtain ⟨d0, d1, d2⟩ := D.all3; clear hb2))
      go_ret
      exact ⟨rfl, hb⟩
    · obtain ⟨g1, g2, g3⟩ := hE.out
      obtain ⟨g4, g5, g6, g7, g8⟩ := hF.out
      simp only [g1, g2, g3, g4, g5, g6, g7, g8, hz3, pickE_0] at q4 q5 q6 q7 q8
      clear g1 g2 g3 g4 g5 g6 g7 g8 hE hF hz3
      obtain ⟨id, m, ch, ro, lo, he⟩ := c
      unfold cfgV at *
      dsimp only at *
      have B := Box6.new w (.int .u32 id) (.int .i64 m) (.int .i64 ch) (.int .i64 ro) (.int .i64 lo) (.int .i64 he) 27
      have hb : Below w.heap.size w (w.alloc (.cells #[.int .u32 id, .int .i64 m, .int .i64 ch, .int .i64 ro, .int .i64 lo, .int .i64 he] 27 (0, 0))) := (Below.refl _ _).alloc (Nat.le_refl _) _
      obtain ⟨c0, c1, c2, c3, c4, c5⟩ := B.all
      go_enter Try.func5, Try.ntmps5
      go_wp2_with (first
        | (go_at_call 13; refine (ka _).mono ?_; rintro e w2 ⟨rfl, hb2⟩; replace hb := hb.trans (hb2.mono hb.size); clear c0 c1 c2 c3 c4 c5; replace B := B.below hb2 (Nat.le_refl _); obtain ⟨c0, c1, c2, c3, c4, c5⟩ := B.all; clear hb2)
        | (go_at_call 12; refine (q1 _).mono ?_; rintro e w2 ⟨rfl, hb2⟩; replace hb := hb.trans (hb2.mono hb.size); clear c0 c1 c2 c3 c4 c5; replace B := B.below hb2 (Nat.le_refl _); obtain ⟨c0, c1, c2, c3, c4, c5⟩ := B.all; clear hb2; have hlt := B.lt))
      refine (q4 _).mono ?_
      rintro e w3 ⟨rfl, hb2⟩
      have D := (CellsAt.new w2 [.int .i64 0, .int .i64 0, .int .i64 0] 30).below hb2 (Nat.le_refl _)
      replace B := (B.below ((Below.refl _ _).alloc (Nat.le_refl _) (.cells #[.int .i64 0, .int .i64 0, .int .i64 0] 30 (0, 0))) (Nat.le_refl _)).below hb2 (Nat.le_refl _)
      replace hb := (hb.alloc hb.size (.cells #[.int .i64 0, .int .i64 0, .int .i64 0] 30 (0, 0))).trans (hb2.mono (by have := hb.size; simp; omega))
      clear c0 c1 c2 c3 c4 c5 hb2 hlt
      obtain ⟨c0, c1, c2, c3, c4, c5⟩ := B.all
      obtain ⟨d0, d1, d2⟩ := D.all3
      go_wp2_with (first
        | (go_at_call 10; (with_reducible refine (q5 _).mono ?_); rintro e w2 ⟨rfl, hb2⟩; replace hb := hb.trans (hb2.mono hb.size); clear c0 c1 c2 c3 c4 c5 d0 d1 d2; replace B := B.below hb2 (Nat.le_refl _); replace D := D.below hb2 (Nat.le_refl _); obtain ⟨c0, c1, c2, c3, c4, c5⟩ := B.all; obtain ⟨d0, d1, d2⟩ := D.all3; clear hb2)
        | (go_at_call 16; (with_reducible refine (q6 _).mono ?_); rintro e w2 ⟨rfl, hb2⟩; replace hb := hb.trans (hb2.mono hb.size); clear c0 c1 c2 c3 c4 c5 d0 d1 d2; replace B := B.below hb2 (Nat.le_refl _); replace D := D.below hb2 (Nat.le_refl _); obtain ⟨c0, c1, c2, c3, c4, c5⟩ := B.all; obtain ⟨d0, d1, d2⟩ := D.all3; clear hb2)
        | (go_at_call 8; (with_reducible refine (q7 _).mono ?_); rintro e w2 ⟨rfl, hb2⟩; replace hb := hb.trans (hb2.mono hb.size); clear c0 c1 c2 c3 c4 c5 d0 d1 d2; replace B := B.below hb2 (Nat.le_refl _); replace D := D.below hb2 (Nat.le_refl _); obtain ⟨c0, c1, c2, c3, c4, c5⟩ := B.all; obtain ⟨d0, d1, d2⟩ := D.all3; clear hb2)
        | (go_at_call 12; (with_reducible refine (q8 _).mono ?_); rintro e w2 ⟨rfl, hb2⟩; replace hb := hb.trans (hb2.mono hb.size); clear c0 c1 c2 c3 c4 c5 d0 d1 d2; replace B := B.below hb2 (Nat.le_refl _); replace D := D.below hb2 (Nat.le_refl _); obtain ⟨c0, c1, c2, c3, c4, c5⟩ := B.all; obtain ⟨d0, d1, d2⟩ := D.all3; clear hb2))
      go_ret
      exact ⟨rfl, hb.alloc hb.size _⟩
  · obtain ⟨f1, f2, f3, f4⟩ := hG.out
    subst h1
    simp only [f1, f2, f3, f4, pickE_0] at q1 q2 q3
    clear f1 f2 f3 f4 hG
    rcases hz with hz | ⟨hm1, hm2, hz3, hE, ⟨hk, hp⟩ | ⟨hk, hp, hF⟩⟩
    · clear q5 q6 q7 q8 eq
      generalize pickE e4 k = k4 at *
      obtain ⟨id, m, ch, ro, lo, he⟩ := c
      unfold cfgV at *
      dsimp only at *
      have B := Box6.new w (.int .u32 id) (.int .i64 m) (.int .i64 ch) (.int .i64 ro) (.int .i64 lo) (.int .i64 he) 27
      have hb : Below w.heap.size w (w.alloc (.cells #[.int .u32 id, .int .i64 m, .int .i64 ch, .int .i64 ro, .int .i64 lo, .int .i64 he] 27 (0, 0))) := (Below.refl _ _).alloc (Nat.le_refl _) _
      obtain ⟨c0, c1, c2, c3, c4, c5⟩ := B.all
      go_enter Try.func5, Try.ntmps5
      go_wp2_with (first
        | (go_at_call 13; refine (ka _).mono ?_; rintro e w2 ⟨rfl, hb2⟩; replace hb := hb.trans (hb2.mono hb.size); clear c0 c1 c2 c3 c4 c5; replace B := B.below hb2 (Nat.le_refl _); obtain ⟨c0, c1, c2, c3, c4, c5⟩ := B.all; clear hb2)
        | (go_at_call 12; refine (q1 _).mono ?_; rintro e w2 ⟨rfl, hb2⟩; replace hb := hb.trans (hb2.mono hb.size); clear c0 c1 c2 c3 c4 c5; replace B := B.below hb2 (Nat.le_refl _); obtain ⟨c0, c1, c2, c3, c4, c5⟩ := B.all; clear hb2; have hlt := B.lt))
      refine (q2 _).mono ?_
      rintro e w3 ⟨rfl, hb2⟩
      have D := (CellsAt.new w2 [.int .i64 x, .int .i64 y, .int .i64 z] 30).below hb2 (Nat.le_refl _)
      replace B := (B.below ((Below.refl _ _).alloc (Nat.le_refl _) (.cells #[.int .i64 x, .int .i64 y, .int .i64 z] 30 (0, 0))) (Nat.le_refl _)).below hb2 (Nat.le_refl _)
      replace hb := (hb.alloc hb.size (.cells #[.int .i64 x, .int .i64 y, .int .i64 z] 30 (0, 0))).trans (hb2.mono (by have := hb.size; simp; omega))
      clear c0 c1 c2 c3 c4 c5 hb2 hlt
      obtain ⟨c0, c1, c2, c3, c4, c5⟩ := B.all
      obtain ⟨d0, d1, d2⟩ := D.all3
      go_wp2_with (first
        | (go_at_call 10; (with_reducible refine (q3 _).mono ?_); rintro e w2 ⟨rfl, hb2⟩; replace hb := hb.trans (hb2.mono hb.size); clear c0 c1 c2 c3 c4 c5 d0 d1 d2; replace B := B.below hb2 (Nat.le_refl _); replace D := D.below hb2 (Nat.le_refl _); obtain ⟨c0, c1, c2, c3, c4, c5⟩ := B.all; obtain ⟨d0, d1, d2⟩ := D.all3; clear hb2)
        | (go_at_call 11; refine (q4 _).mono ?_; rintro e w2 ⟨rfl, hb2⟩; replace hb := hb.trans (hb2.mono hb.size); clear c0 c1 c2 c3 c4 c5 d0 d1 d2; replace B := B.below hb2 (Nat.le_refl _); replace D := D.below hb2 (Nat.le_refl _); obtain ⟨c0, c1, c2, c3, c4, c5⟩ := B.all; obtain ⟨d0, d1, d2⟩ := D.all3; clear hb2))
      go_ret
      exact ⟨rfl, hb⟩
    · obtain ⟨g1, g2, g3⟩ := hE.out
      simp only [g1, g2, g3, hz3, pickE_0] at q4 q5 q6
      clear q7 q8 g1 g2 g3 hE hz3 eq
      obtain ⟨id, m, ch, ro, lo, he⟩ := c
      unfold cfgV at *
      dsimp only at *
      have B := Box6.new w (.int .u32 id) (.int .i64 m) (.int .i64 ch) (.int .i64 ro) (.int .i64 lo) (.int .i64 he) 27
      have hb : Below w.heap.size w (w.alloc (.cells #[.int .u32 id, .int .i64 m, .int .i64 ch, .int .i64 ro, .int .i64 lo, .int .i64 he] 27 (0, 0))) := (Below.refl _ _).alloc (Nat.le_refl _) _
      obtain ⟨c0, c1, c2, c3, c4, c5⟩ := B.all
      go_enter Try.func5, Try.ntmps5
      go_wp2_with (first
        | (go_at_call 13; refine (ka _).mono ?_; rintro e w2 ⟨rfl, hb2⟩; replace hb := hb.trans (hb2.mono hb.size); clear c0 c1 c2 c3 c4 c5; replace B := B.below hb2 (Nat.le_refl _); obtain ⟨c0, c1, c2, c3, c4, c5⟩ := B.all; clear hb2)
        | (go_at_call 12; refine (q1 _).mono ?_; rintro e w2 ⟨rfl, hb2⟩; replace hb := hb.trans (hb2.mono hb.size); clear c0 c1 c2 c3 c4 c5; replace B := B.below hb2 (Nat.le_refl _); obtain ⟨c0, c1, c2, c3, c4, c5⟩ := B.all; clear hb2; have hlt := B.lt))
      refine (q2 _).mono ?_
      rintro e w3 ⟨rfl, hb2⟩
      have D := (CellsAt.new w2 [.int .i64 x, .int .i64 y, .int .i64 z] 30).below hb2 (Nat.le_refl _)
      replace B := (B.below ((Below.refl _ _).alloc (Nat.le_refl _) (.cells #[.int .i64 x, .int .i64 y, .int .i64 z] 30 (0, 0))) (Nat.le_refl _)).below hb2 (Nat.le_refl _)
      replace hb := (hb.alloc hb.size (.cells #[.int .i64 x, .int .i64 y, .int .i64 z] 30 (0, 0))).trans (hb2.mono (by have := hb.size; simp; omega))
      clear c0 c1 c2 c3 c4 c5 hb2 hlt
      obtain ⟨c0, c1, c2, c3, c4, c5⟩ := B.all
      obtain ⟨d0, d1, d2⟩ := D.all3
      go_wp2_with (first
        | (go_at_call 10; (with_reducible refine (q3 _).mono ?_); rintro e w2 ⟨rfl, hb2⟩; replace hb := hb.trans (hb2.mono hb.size); clear c0 c1 c2 c3 c4 c5 d0 d1 d2; replace B := B.below hb2 (Nat.le_refl _); replace D := D.below hb2 (Nat.le_refl _); obtain ⟨c0, c1, c2, c3, c4, c5⟩ := B.all; obtain ⟨d0, d1, d2⟩ := D.all3; clear hb2)
        | (go_at_call 11; refine (q4 _).mono ?_; rintro e w2 ⟨rfl, hb2⟩; replace hb := hb.trans (hb2.mono hb.size); clear c0 c1 c2 c3 c4 c5 d0 d1 d2; replace B := B.below hb2 (Nat.le_refl _); replace D := D.below hb2 (Nat.le_refl _); obtain ⟨c0, c1, c2, c3, c4, c5⟩ := B.all; obtain ⟨d0, d1, d2⟩ := D.all3; clear hb2)
        | (go_at_call 10; (with_reducible refine (q5 _).mono ?_); rintro e w2 ⟨rfl, hb2⟩; replace hb := hb.trans (hb2.mono hb.size); clear c0 c1 c2 c3 c4 c5 d0 d1 d2; replace B := B.below hb2 (Nat.le_refl _); replace D := D.below hb2 (Nat.le_refl _); obtain ⟨c0, c1, c2, c3, c4, c5⟩ := B.all; obtain ⟨d0, d1, d2⟩ := D.all3; clear hb2)
        | (go_at_call 16; (with_reducible refine (q6 _).mono ?_); rintro e w2 ⟨rfl, hb2⟩; replace hb := hb.trans (hb2.mono hb.size); clear c0 c1 c2 c3 c4 c5 d0 d1 d2; replace B := B.below hb2 (Nat.le_refl _); replace D := D.below hb2 (Nat.le_refl _); obtain ⟨c0, c1, c2, c3, c4, c5⟩ := B.all; obtain ⟨d0, d1, d2⟩ := D.all3; clear hb2))
      go_ret
      exact ⟨rfl, hb⟩
    · obtain ⟨g1, g2, g3⟩ := hE.out
      obtain ⟨g4, g5, g6, g7, g8⟩ := hF.out
      simp only [g1, g2, g3, g4, g5, g6, g7, g8, hz3, pickE_0] at q4 q5 q6 q7 q8
      clear g1 g2 g3 g4 g5 g6 g7 g8 hE hF hz3
      obtain ⟨id, m, ch, ro, lo, he⟩ := c
      unfold cfgV at *
      dsimp only at *
      have B := Box6.new w (.int .u32 id) (.int .i64 m) (.int .i64 ch) (.int .i64 ro) (.int .i64 lo) (.int .i64 he) 27
      have hb : Below w.heap.size w (w.alloc (.cells #[.int .u32 id, .int .i64 m, .int .i64 ch, .int .i64 ro, .int .i64 lo, .int .i64 he] 27 (0, 0))) := (Below.refl _ _).alloc (Nat.le_refl _) _
      obtain ⟨c0, c1, c2, c3, c4, c5⟩ := B.all
      go_enter Try.func5, Try.ntmps5
      go_wp2_with (first
        | (go_at_call 13; refine (ka _).mono ?_; rintro e w2 ⟨rfl, hb2⟩; replace hb := hb.trans (hb2.mono hb.size); clear c0 c1 c2 c3 c4 c5; replace B := B.below hb2 (Nat.le_refl _); obtain ⟨c0, c1, c2, c3, c4, c5⟩ := B.all; clear hb2)
        | (go_at_call 12; refine (q1 _).mono ?_; rintro e w2 ⟨rfl, hb2⟩; replace hb := hb.trans (hb2.mono hb.size); clear c0 c1 c2 c3 c4 c5; replace B := B.below hb2 (Nat.le_refl _); obtain ⟨c0, c1, c2, c3, c4, c5⟩ := B.all; clear hb2; have hlt := B.lt))
      refine (q2 _).mono ?_
      rintro e w3 ⟨rfl, hb2⟩
      have D := (CellsAt.new w2 [.int .i64 x, .int .i64 y, .int .i64 z] 30).below hb2 (Nat.le_refl _)
      replace B := (B.below ((Below.refl _ _).alloc (Nat.le_refl _) (.cells #[.int .i64 x, .int .i64 y, .int .i64 z] 30 (0, 0))) (Nat.le_refl _)).below hb2 (Nat.le_refl _)
      replace hb := (hb.alloc hb.size (.cells #[.int .i64 x, .int .i64 y, .int .i64 z] 30 (0, 0))).trans (hb2.mono (by have := hb.size; simp; omega))
      clear c0 c1 c2 c3 c4 c5 hb2 hlt
      obtain ⟨c0, c1, c2, c3, c4, c5⟩ := B.all
      obtain ⟨d0, d1, d2⟩ := D.all3
      go_wp2_with (first
        | (go_at_call 10; (with_reducible refine (q3 _).mono ?_); rintro e w2 ⟨rfl, hb2⟩; replace hb := hb.trans (hb2.mono hb.size); clear c0 c1 c2 c3 c4 c5 d0 d1 d2; replace B := B.below hb2 (Nat.le_refl _); replace D := D.below hb2 (Nat.le_refl _); obtain ⟨c0, c1, c2, c3, c4, c5⟩ := B.all; obtain ⟨d0, d1, d2⟩ := D.all3; clear hb2)
        | (go_at_call 11; refine (q4 _).mono ?_; rintro e w2 ⟨rfl, hb2⟩; replace hb := hb.trans (hb2.mono hb.size); clear c0 c1 c2 c3 c4 c5 d0 d1 d2; replace B := B.below hb2 (Nat.le_refl _); replace D := D.below hb2 (Nat.le_refl _); obtain ⟨c0, c1, c2, c3, c4, c5⟩ := B.all; obtain ⟨d0, d1, d2⟩ := D.all3; clear hb2)
        | (go_at_call 10; (with_reducible refine (q5 _).mono ?_); rintro e w2 ⟨rfl, hb2⟩; replace hb := hb.trans (hb2.mono hb.size); clear c0 c1 c2 c3 c4 c5 d0 d1 d2; replace B := B.below hb2 (Nat.le_refl _); replace D := D.below hb2 (Nat.le_refl _); obtain ⟨c0, c1, c2, c3, c4, c5⟩ := B.all; obtain ⟨d0, d1, d2⟩ := D.all3; clear hb2)
        | (go_at_call 16; (with_reducible refine (q6 _).mono ?_); rintro e w2 ⟨rfl, hb2⟩; replace hb := hb.trans (hb2.mono hb.size); clear c0 c1 c2 c3 c4 c5 d0 d1 d2; replace B := B.below hb2 (Nat.le_refl _); replace D := D.below hb2 (Nat.le_refl _); obtain ⟨c0, c1, c2, c3, c4, c5⟩ := B.all; obtain ⟨d0, d1, d2⟩ := D.all3; clear hb2)
        | (go_at_call 8; (with_reducible refine (q7 _).mono ?_); rintro e w2 ⟨rfl, hb2⟩; replace hb := hb.trans (hb2.mono hb.size); clear c0 c1 c2 c3 c4 c5 d0 d1 d2; replace B := B.below hb2 (Nat.le_refl _); replace D := D.below hb2 (Nat.le_refl _); obtain ⟨c0, c1, c2, c3, c4, c5⟩ := B.all; obtain ⟨d0, d1, d2⟩ := D.all3; clear hb2)
        | (go_at_call 12; (with_reducible refine (q8 _).mono ?_); rintro e w2 ⟨rfl, hb2⟩; replace hb := hb.trans (hb2.mono hb.size); clear c0 c1 c2 c3 c4 c5 d0 d1 d2; replace B := B.below hb2 (Nat.le_refl _); replace D := D.below hb2 (Nat.le_refl _); obtain ⟨c0, c1, c2, c3, c4, c5⟩ := B.all; obtain ⟨d0, d1, d2⟩ := D.all3; clear hb2))
      go_ret
      exact ⟨rfl, hb.alloc hb.size _⟩


namespace turnBack
set_option linter.unusedVariables false
set_option maxRecDepth 100000 in
theorem lifted (os : Os) (started : os.Started) (H : Type) (enc : TypeId × Value → H) :
    ReturnsInHanded {} Try.checked os 5 .any (Rows.turnBackSpec.pre6 enc Try.prog Try.f5 Rows.turnBackRow.domain false) (Rows.turnBackSpec.post enc Try.prog Try.f5 false true false false) := by
  refine returnsInHanded_of_change (C := Try.checked) Try.own started (by kernel_rfl) Try.func5
    (ChangeSpec.witness6 (enc := enc) (C := Try.checked) false ⟨#[], #[.agg #[.int .u32 0, .int .i64 0, .int .i64 0, .int .i64 0, .int .i64 0, .int .i64 0], .int .i64 0, .int .i64 0, .int .i64 0], []⟩ 8 (by kernel_rfl) (by kernel_rfl) (by kernel_rfl) (by kernel_rfl)) ?_
  intro W base args ds gs before hval0 hW hcnd _
  have hval : ∀ (j : Nat) t v, Try.f5.params[j]? = some t → args[j]? = some v → Value.okWide Try.prog W .any base t v := hval0
  have hW' := hW
  obtain ⟨p, q, hA0, hV, rfl, hfz, hnd⟩ := hW
  have hA : DataW.TrodAll enc Try.prog W 0 (fun _ => true) true Try.f5.params.toList args.toList ds p := hA0
  rw [Try.params5] at hA hval
  obtain ⟨v0, vs0, d0, ds0, p0, q0, hargs, rfl, rfl, h0, r0⟩ := trodAll_cons hA
  obtain ⟨v1, vs1, d1, ds1, p1, q1, rfl, rfl, rfl, h1, r1⟩ := trodAll_cons r0
  obtain ⟨v2, vs2, d2, ds2, p2, q2, rfl, rfl, rfl, h2, r2⟩ := trodAll_cons r1
  obtain ⟨v3, vs3, d3, ds3, p3, q3, rfl, rfl, rfl, h3, r3⟩ := trodAll_cons r2
  obtain ⟨rfl, rfl, rfl⟩ := trodAll_nil r3
  obtain rfl : args = #[v0, v1, v2, v3] := by cases args; simp_all
  obtain ⟨rfl, rfl⟩ := trodVars_none hV
  have k0 := h0
  have lt0 : ∀ x ∈ p0, x.block < W.heap.size := by obtain ⟨m, hm⟩ := k0; exact DataW.trod_lt m _ _ _ hm
  obtain ⟨z0, rfl, w0⟩ := cfg_in (hval 0 27 v0 rfl rfl) h0
  obtain ⟨a1, rfl, rfl, rfl, w1⟩ := open_int Try.underlying3 (hval 1 3 v1 rfl rfl) h1
  obtain ⟨a2, rfl, rfl, rfl, w2⟩ := open_int Try.underlying3 (hval 2 3 v2 rfl rfl) h2
  obtain ⟨a3, rfl, rfl, rfl, w3⟩ := open_int Try.underlying3 (hval 3 3 v3 rfl rfl) h3
  clear hA0 hval0
  refine (turnBack_walk W z0 w0 a1 w1 a2 w2 a3 w3).mono fun e W' ⟨he, bel⟩ => ?_
  subst he
  exact ⟨_, rfl, _, _, _, [], _, [], hW', trodAll_mk1 (shut_bool Try.underlying4 _), (trodAll_cons_mk (Below.trod Try.laidOut (by kernel_rfl) (of_decide_eq_true (by kernel_rfl)) k0 bel lt0) (trodAll_cons_mk (shut_int Try.underlying3 w1) (trodAll_cons_mk (shut_int Try.underlying3 w2) (trodAll_cons_mk (shut_int Try.underlying3 w3) trodAll_mk0)))), rfl, bel.frame _, fun h => by cases h⟩

theorem holds : Rows.TurnBackSaid :=
  OpenClaim.holds_of_wide 5 Try.f5 rfl rfl rfl rfl rfl rfl rfl ⟨rfl, rfl, rfl, rfl, rfl⟩ rfl rfl rfl rfl rfl (by kernel_rfl) Try.func5 (by kernel_rfl)
    (of_decide_eq_true (by kernel_rfl)) (by unfold Func.isWrapper; first | (rw [if_pos (by decide +kernel)]; kernel_rfl) | (rw [if_neg (by decide +kernel)]; exact ⟨rfl, rfl⟩))
    (fun os started H enc _ => lifted os started H enc)
end turnBack
end Go.Proofs.Ytilcmkaibfolcaa
