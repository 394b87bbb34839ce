/- freeboardlaw07.TurnWalks: for every input the law answers true, and what is handed in reads as it did. Conditions: none. -/
import Derived.Test.YtilcmkaibfolcaaTurnAlive
namespace Go.Proofs.Ytilcmkaibfolcaa
open Go.ChangeShapes Go.WideShapes Go.ChangeAt Go.RowKit ShapeM TurnM
set_option linter.unusedVariables false

/-- What TurnWalks meets where a block is there. -/
structure WalkF (c : Cfg) (b : Int) (N K b' q a y z l : Nat) : Prop where
  mem : c.mem = N
  chunk : c.chunk = K
  blk : b = b'
  n0 : 3 ≤ N
  n1 : N < 17
  k0 : 1 ≤ K
  k1 : K < 9
  b1 : b' < 1000
  q1 : q < 1000
  a1 : a < 1000
  z1 : z < 1000
  hq : (b' : Int) / (K : Int) = (q : Int)
  hz : (q : Int) % (N : Int) = (z : Int)
  ha : (a : Int) % (K : Int) = (l : Int)
  hl : (b' : Int) % (K : Int) = (l : Int)
  e : eSpot c b = 0
  vs : vSpS c b = a
  vk : vSpK c b = y
  vm : vSpM c b = z
  may : MayC c
theorem walkF {c : Cfg} (h : MayC c) {b : Int} (hb : amongB b (blkC c) = true) : ∃ N K b' q a y z l : Nat, WalkF c b N K b' q a y z l ∧ ((eSpot c ((b' : Int) + 1) = 2 ∧ blkC c = (b' : Int) + 1) ∨ (eSpot c ((b' : Int) + 1) = 0 ∧ (((b' : Int) + 1) % (K : Int) = 0 ∧ ∃ z2 : Nat, ((z : Int) + 1) % (N : Int) = (z2 : Int) ∧ vSpM c ((b' : Int) + 1) = z2)) ∨ (eSpot c ((b' : Int) + 1) = 0 ∧ ∃ l2 : Nat, ((b' : Int) + 1) % (K : Int) = (l2 : Int) ∧ ((l2 : Int) == 0) = false ∧ vSpS c ((b' : Int) + 1) = (a : Int) + 1 ∧ vSpK c ((b' : Int) + 1) = y ∧ vSpM c ((b' : Int) + 1) = z)) := by
  have M := may3 h
  have e0 : eSpot c b = 0 := by unfold eSpot; rw [hb]; exact okE_ok h
  have hbn := blkC_n h
  have h960 := blk_960 h
  have h64 := str_64 h
  rw [hbn] at hb
  obtain ⟨x, rfl, hx⟩ := among_lt hb
  have s1 := spS_lt M hx
  have m1 := mem_lt M (spS (nN c) (nK c) x) (spK (nN c) (nK c) x)
  have d1 : x / nK c ≤ x := Nat.div_le_self _ _
  have g1 := mem_sp M hx
  have g2 := spS_mod (N := nN c) (K := nK c) (b := x)
  have n1 := M.n1
  refine ⟨nN c, nK c, x, x / nK c, spS (nN c) (nK c) x, spK (nN c) (nK c) x, mem (nN c) (nK c) (spS (nN c) (nK c) x) (spK (nN c) (nK c) x), x % nK c, ⟨mem_nN h, chunk_nK h, rfl, M.n0, M.n1, M.k0, M.k1, by omega, Nat.lt_of_le_of_lt d1 (by omega), by omega, by omega, by simp, by rw [g1]; simp, by rw [← g2]; simp, by simp, e0, by unfold vSpS; rw [Int.toNat_natCast], by unfold vSpK; rw [Int.toNat_natCast], by unfold vSpM; rw [Int.toNat_natCast], h⟩, ?_⟩
  have c1 : ((x : Int) + 1) = ((x + 1 : Nat) : Int) := by omega
  rw [c1]
  by_cases q : x + 1 < (nN c - 1) * (nK c * nR c)
  · have e1 : eSpot c ((x + 1 : Nat) : Int) = 0 := by
      unfold eSpot
      rw [show amongB ((x + 1 : Nat) : Int) (blkC c) = true from decide_eq_true ⟨by omega, by rw [hbn]; omega⟩]
      exact okE_ok h
    by_cases q2 : (x + 1) % nK c = 0
    · refine .inr (.inl ⟨e1, by rw [← Int.natCast_emod, q2]; rfl, mem (nN c) (nK c) (spS (nN c) (nK c) (x + 1)) (spK (nN c) (nK c) (x + 1)), ?_, by unfold vSpM; rw [Int.toNat_natCast]⟩)
      rw [next_chunk M q q2]
      simp
    · have g := next_in (N := nN c) q2
      refine .inr (.inr ⟨e1, (x + 1) % nK c, by simp, beq_eq_false_iff_ne.2 (fun e => q2 (Int.natCast_eq_zero.mp e)), ?_, ?_, ?_⟩)
      · unfold vSpS; rw [Int.toNat_natCast, g.1]; rfl
      · unfold vSpK; rw [Int.toNat_natCast, g.2]
      · unfold vSpM; rw [Int.toNat_natCast, next_mem M q q2]
  · refine .inl ⟨?_, by rw [hbn]; omega⟩
    unfold eSpot
    rw [show amongB ((x + 1 : Nat) : Int) (blkC c) = false from decide_eq_false (by rw [hbn]; omega)]
    exact okE_arg h

set_option maxRecDepth 100000 in
set_option maxHeartbeats 4000000 in
theorem turnWalks_walk (w : World) (c : Cfg) (_hw : Wide c) (b : Int) (_wb : (Lit.int .i64 b).wf = true) : Calls Try.prog 6 #[cfgV c, .int .i64 b] w fun e w' => e = .returned (.bool true) ∧ Below w.heap.size w w' := by
  have ka := fun W => alive7_calls W
  have q1 := fun W => turnSpot c b W
  have hx : (eSpot c b ≠ 0 ∧ Hid (pickE (eSpot c b) (vSpS c b) = 0 ∧ pickE (eSpot c b) (vSpK c b) = 0 ∧ pickE (eSpot c b) (vSpM c b) = 0)) ∨ (MayC c ∧ amongB b (blkC c) = true) := by
    by_cases h : MayC c
    · cases hb : amongB b (blkC c)
      · refine .inl ?_
        have : eSpot c b = 2 := by unfold eSpot; rw [hb]; exact okE_arg h
        rw [this]
        exact ⟨by decide, Lib.hid ⟨rfl, rfl, rfl⟩⟩
      · exact .inr ⟨h, rfl⟩
    · refine .inl ?_
      have : eSpot c b = 8 := okE_no h _
      rw [this]
      exact ⟨by decide, Lib.hid ⟨rfl, rfl, rfl⟩⟩
  rcases hx with ⟨h1, hG⟩ | ⟨hM, hb⟩
  · obtain ⟨f1, f2, f3⟩ := hG.out
    simp only [f1, f2, f3] at q1
    clear f1 f2 f3 hG
    generalize eSpot c b = e1 at *
    unfold spotV at *
    clear _hw
    obtain ⟨id, m, ch, ro, lo, he⟩ := c
    unfold cfgV at *
    dsimp only at *
    have B := Box6.new w (.int .u32 id) (.int .i64 m) (.int .i64 ch) (.int .i64 ro) (.int .i64 lo) (.int .i64 he) 27
    have hb : Below w.heap.size w (w.alloc (.cells #[.int .u32 id, .int .i64 m, .int .i64 ch, .int .i64 ro, .int .i64 lo, .int .i64 he] 27 (0, 0))) := (Below.refl _ _).alloc (Nat.le_refl _) _
    obtain ⟨c0, c1, c2, c3, c4, c5⟩ := B.all
    go_enter Try.func6, Try.ntmps6
    go_wp2_with (first
      | (go_at_call 13; refine (ka _).mono ?_; rintro e w2 ⟨rfl, hb2⟩; replace hb := hb.trans (hb2.mono hb.size); clear c0 c1 c2 c3 c4 c5; replace B := B.below hb2 (Nat.le_refl _); obtain ⟨c0, c1, c2, c3, c4, c5⟩ := B.all; clear hb2)
      | (go_at_call 12; refine (q1 _).mono ?_; rintro e w2 ⟨rfl, hb2⟩; replace hb := hb.trans (hb2.mono hb.size); clear c0 c1 c2 c3 c4 c5; replace B := B.below hb2 (Nat.le_refl _); obtain ⟨c0, c1, c2, c3, c4, c5⟩ := B.all; clear hb2))
    go_ret
    exact ⟨rfl, hb.alloc hb.size _⟩
  · obtain ⟨N, K, b', q, a, y, z, l, hF, hN⟩ := walkF hM hb
    have kb := fun W => blocks_told c W
    simp only [numC_may hM, chkC_may hM] at kb
    obtain ⟨mem, chunk, rfl, n0, n1, k0, k1, b1, q1b, a1, z1, hq, hz, ha, hl, e, vs, vk, vm, _⟩ := hF
    simp only [e, vs, vk, vm, pickE_0] at q1
    have q2 := fun W => turnSpot c ((b' : Int) + 1) W
    clear e vs vk vm hM hb _hw
    rcases hN with ⟨e2, hB⟩ | ⟨e2, h0, z2, hz2, vm2⟩ | ⟨e2, l2, hl2, hl3, vs2, vk2, vm2⟩
    · simp only [e2, pickE_2, hB] at q2 kb
      clear e2 hB
      unfold spotV at *
      obtain ⟨id, m, ch, ro, lo, he⟩ := c
      unfold cfgV at *
      dsimp only at *
      subst mem chunk
      have B := Box6.new w (.int .u32 id) (.int .i64 N) (.int .i64 K) (.int .i64 ro) (.int .i64 lo) (.int .i64 he) 27
      have hb : Below w.heap.size w (w.alloc (.cells #[.int .u32 id, .int .i64 N, .int .i64 K, .int .i64 ro, .int .i64 lo, .int .i64 he] 27 (0, 0))) := (Below.refl _ _).alloc (Nat.le_refl _) _
      obtain ⟨c0, c1, c2, c3, c4, c5⟩ := B.all
      go_enter Try.func6, Try.ntmps6
      go_wp2_with (first
        | (go_at_call 13; refine (ka _).mono ?_; rintro e w2 ⟨rfl, hb2⟩; replace hb := hb.trans (hb2.mono hb.size); clear c0 c1 c2 c3 c4 c5; replace B := B.below hb2 (Nat.le_refl _); obtain ⟨c0, c1, c2, c3, c4, c5⟩ := B.all; clear hb2)
        | (go_at_call 12; refine (q1 _).mono ?_; rintro e w2 ⟨rfl, hb2⟩; replace hb := hb.trans (hb2.mono hb.size); clear c0 c1 c2 c3 c4 c5; replace B := B.below hb2 (Nat.le_refl _); obtain ⟨c0, c1, c2, c3, c4, c5⟩ := B.all; clear hb2; have hlt := B.lt))
      have D := CellsAt.new w2 [.int .i64 a, .int .i64 y, .int .i64 z] 30
      have hb0 := hb
      replace hb := hb.alloc hb.size (.cells #[.int .i64 a, .int .i64 y, .int .i64 z] 30 (0, 0))
      replace B := B.below ((Below.refl _ _).alloc (Nat.le_refl _) (.cells #[.int .i64 a, .int .i64 y, .int .i64 z] 30 (0, 0))) (Nat.le_refl _)
      go_quiet (fail)
      replace hb := below_drewN hb nq
      replace B := B.below (below_drewN (Below.refl _ _) nq) (Nat.le_refl _)
      replace D := D.below (below_drewN (Below.refl _ _) nq) (Nat.le_refl _)
      clear c0 c1 c2 c3 c4 c5 hlt hb0
      generalize World.drewN _ nq = w3 at *
      generalize w2.heap.size = g at *
      obtain ⟨c0, c1, c2, c3, c4, c5⟩ := B.all
      obtain ⟨d0, d1, d2⟩ := D.all3
      go_wp2_with (go_at_call 12; refine (q2 _).mono ?_; rintro e w4 ⟨rfl, hb2⟩; replace hb := hb.trans (hb2.mono hb.size); clear c0 c1 c2 c3 c4 c5 d0 d1 d2; replace B := B.below hb2 (Nat.le_refl _); replace D := D.below hb2 (Nat.le_refl _); obtain ⟨c0, c1, c2, c3, c4, c5⟩ := B.all; obtain ⟨d0, d1, d2⟩ := D.all3; have hlt := B.lt; have hlt2 := D.lt; clear hb2)
      refine (kb _).mono ?_
      rintro e w5 ⟨rfl, hb5⟩
      replace hb := (hb.alloc hb.size _).trans (hb5.mono (by have := hb.size; simp; omega))
      go_wp2_with fail
      go_ret
      exact ⟨rfl, hb⟩

    · clear kb
      simp only [e2, vm2, pickE_0] at q2
      clear e2 vm2
      generalize vSpS c ((b' : Int) + 1) = x5 at *
      generalize vSpK c ((b' : Int) + 1) = x6 at *
      unfold spotV at *
      obtain ⟨id, m, ch, ro, lo, he⟩ := c
      unfold cfgV at *
      dsimp only at *
      subst mem chunk
      have B := Box6.new w (.int .u32 id) (.int .i64 N) (.int .i64 K) (.int .i64 ro) (.int .i64 lo) (.int .i64 he) 27
      have hb : Below w.heap.size w (w.alloc (.cells #[.int .u32 id, .int .i64 N, .int .i64 K, .int .i64 ro, .int .i64 lo, .int .i64 he] 27 (0, 0))) := (Below.refl _ _).alloc (Nat.le_refl _) _
      obtain ⟨c0, c1, c2, c3, c4, c5⟩ := B.all
      go_enter Try.func6, Try.ntmps6
      go_wp2_with (first
        | (go_at_call 13; refine (ka _).mono ?_; rintro e w2 ⟨rfl, hb2⟩; replace hb := hb.trans (hb2.mono hb.size); clear c0 c1 c2 c3 c4 c5; replace B := B.below hb2 (Nat.le_refl _); obtain ⟨c0, c1, c2, c3, c4, c5⟩ := B.all; clear hb2)
        | (go_at_call 12; refine (q1 _).mono ?_; rintro e w2 ⟨rfl, hb2⟩; replace hb := hb.trans (hb2.mono hb.size); clear c0 c1 c2 c3 c4 c5; replace B := B.below hb2 (Nat.le_refl _); obtain ⟨c0, c1, c2, c3, c4, c5⟩ := B.all; clear hb2; have hlt := B.lt))
      have D := CellsAt.new w2 [.int .i64 a, .int .i64 y, .int .i64 z] 30
      have hb0 := hb
      replace hb := hb.alloc hb.size (.cells #[.int .i64 a, .int .i64 y, .int .i64 z] 30 (0, 0))
      replace B := B.below ((Below.refl _ _).alloc (Nat.le_refl _) (.cells #[.int .i64 a, .int .i64 y, .int .i64 z] 30 (0, 0))) (Nat.le_refl _)
      go_quiet (fail)
      replace hb := below_drewN hb nq
      replace B := B.below (below_drewN (Below.refl _ _) nq) (Nat.le_refl _)
      replace D := D.below (below_drewN (Below.refl _ _) nq) (Nat.le_refl _)
      clear c0 c1 c2 c3 c4 c5 hlt hb0
      generalize World.drewN _ nq = w3 at *
      generalize w2.heap.size = g at *
      obtain ⟨c0, c1, c2, c3, c4, c5⟩ := B.all
      obtain ⟨d0, d1, d2⟩ := D.all3
      go_wp2_with (go_at_call 12; refine (q2 _).mono ?_; rintro e w4 ⟨rfl, hb2⟩; replace hb := hb.trans (hb2.mono hb.size); clear c0 c1 c2 c3 c4 c5 d0 d1 d2; replace B := B.below hb2 (Nat.le_refl _); replace D := D.below hb2 (Nat.le_refl _); obtain ⟨c0, c1, c2, c3, c4, c5⟩ := B.all; obtain ⟨d0, d1, d2⟩ := D.all3; have hlt := B.lt; have hlt2 := D.lt; clear hb2)
      go_quiet (fail)
      go_wp2_with fail
      go_ret
      exact ⟨rfl, below_drewN (hb.alloc hb.size _) _⟩

    · clear kb
      simp only [e2, vs2, vk2, vm2, pickE_0] at q2
      clear e2 vs2 vk2 vm2
      have eq := fun W => spot_eql W ((a : Int) + 1) y z ((a : Int) + 1) y z
      simp only [and_self, decide_true] at eq
      unfold spotV at *
      obtain ⟨id, m, ch, ro, lo, he⟩ := c
      unfold cfgV at *
      dsimp only at *
      subst mem chunk
      have B := Box6.new w (.int .u32 id) (.int .i64 N) (.int .i64 K) (.int .i64 ro) (.int .i64 lo) (.int .i64 he) 27
      have hb : Below w.heap.size w (w.alloc (.cells #[.int .u32 id, .int .i64 N, .int .i64 K, .int .i64 ro, .int .i64 lo, .int .i64 he] 27 (0, 0))) := (Below.refl _ _).alloc (Nat.le_refl _) _
      obtain ⟨c0, c1, c2, c3, c4, c5⟩ := B.all
      go_enter Try.func6, Try.ntmps6
      go_wp2_with (first
        | (go_at_call 13; refine (ka _).mono ?_; rintro e w2 ⟨rfl, hb2⟩; replace hb := hb.trans (hb2.mono hb.size); clear c0 c1 c2 c3 c4 c5; replace B := B.below hb2 (Nat.le_refl _); obtain ⟨c0, c1, c2, c3, c4, c5⟩ := B.all; clear hb2)
        | (go_at_call 12; refine (q1 _).mono ?_; rintro e w2 ⟨rfl, hb2⟩; replace hb := hb.trans (hb2.mono hb.size); clear c0 c1 c2 c3 c4 c5; replace B := B.below hb2 (Nat.le_refl _); obtain ⟨c0, c1, c2, c3, c4, c5⟩ := B.all; clear hb2; have hlt := B.lt))
      have D := CellsAt.new w2 [.int .i64 a, .int .i64 y, .int .i64 z] 30
      have hb0 := hb
      replace hb := hb.alloc hb.size (.cells #[.int .i64 a, .int .i64 y, .int .i64 z] 30 (0, 0))
      replace B := B.below ((Below.refl _ _).alloc (Nat.le_refl _) (.cells #[.int .i64 a, .int .i64 y, .int .i64 z] 30 (0, 0))) (Nat.le_refl _)
      go_quiet (fail)
      replace hb := below_drewN hb nq
      replace B := B.below (below_drewN (Below.refl _ _) nq) (Nat.le_refl _)
      replace D := D.below (below_drewN (Below.refl _ _) nq) (Nat.le_refl _)
      clear c0 c1 c2 c3 c4 c5 hlt hb0
      generalize World.drewN _ nq = w3 at *
      generalize w2.heap.size = g at *
      obtain ⟨c0, c1, c2, c3, c4, c5⟩ := B.all
      obtain ⟨d0, d1, d2⟩ := D.all3
      go_wp2_with (go_at_call 12; refine (q2 _).mono ?_; rintro e w4 ⟨rfl, hb2⟩; replace hb := hb.trans (hb2.mono hb.size); clear c0 c1 c2 c3 c4 c5 d0 d1 d2; replace B := B.below hb2 (Nat.le_refl _); replace D := D.below hb2 (Nat.le_refl _); obtain ⟨c0, c1, c2, c3, c4, c5⟩ := B.all; obtain ⟨d0, d1, d2⟩ := D.all3; have hlt := B.lt; have hlt2 := D.lt; clear hb2)
      go_ret
      exact ⟨rfl, hb.alloc hb.size _⟩



namespace turnWalks
set_option linter.unusedVariables false
set_option maxRecDepth 100000 in
theorem lifted (os : Os) (started : os.Started) (H : Type) (enc : TypeId × Value → H) :
    ReturnsInHanded {} Try.checked os 6 .any (Rows.turnWalksSpec.pre6 enc Try.prog Try.f6 Rows.turnWalksRow.domain false) (Rows.turnWalksSpec.post enc Try.prog Try.f6 false true false false) := by
  refine returnsInHanded_of_change (C := Try.checked) Try.own started (by kernel_rfl) Try.func6
    (ChangeSpec.witness6 (enc := enc) (C := Try.checked) false ⟨#[], #[.agg #[.int .u32 0, .int .i64 0, .int .i64 0, .int .i64 0, .int .i64 0, .int .i64 0], .int .i64 0], []⟩ 8 (by kernel_rfl) (by kernel_rfl) (by kernel_rfl) (by kernel_rfl)) ?_
  intro W base args ds gs before hval0 hW hcnd _
  have hval : ∀ (j : Nat) t v, Try.f6.params[j]? = some t → args[j]? = some v → Value.okWide Try.prog W .any base t v := hval0
  have hW' := hW
  obtain ⟨p, q, hA0, hV, rfl, hfz, hnd⟩ := hW
  have hA : DataW.TrodAll enc Try.prog W 0 (fun _ => true) true Try.f6.params.toList args.toList ds p := hA0
  rw [Try.params6] at hA hval
  obtain ⟨v0, vs0, d0, ds0, p0, q0, hargs, rfl, rfl, h0, r0⟩ := trodAll_cons hA
  obtain ⟨v1, vs1, d1, ds1, p1, q1, rfl, rfl, rfl, h1, r1⟩ := trodAll_cons r0
  obtain ⟨rfl, rfl, rfl⟩ := trodAll_nil r1
  obtain rfl : args = #[v0, v1] := by cases args; simp_all
  obtain ⟨rfl, rfl⟩ := trodVars_none hV
  have k0 := h0
  have lt0 : ∀ x ∈ p0, x.block < W.heap.size := by obtain ⟨m, hm⟩ := k0; exact DataW.trod_lt m _ _ _ hm
  obtain ⟨z0, rfl, w0⟩ := cfg_in (hval 0 27 v0 rfl rfl) h0
  obtain ⟨a1, rfl, rfl, rfl, w1⟩ := open_int Try.underlying3 (hval 1 3 v1 rfl rfl) h1
  clear hA0 hval0
  refine (turnWalks_walk W z0 w0 a1 w1).mono fun e W' ⟨he, bel⟩ => ?_
  subst he
  exact ⟨_, rfl, _, _, _, [], _, [], hW', trodAll_mk1 (shut_bool Try.underlying4 _), (trodAll_cons_mk (Below.trod Try.laidOut (by kernel_rfl) (of_decide_eq_true (by kernel_rfl)) k0 bel lt0) (trodAll_cons_mk (shut_int Try.underlying3 w1) trodAll_mk0)), rfl, bel.frame _, fun h => by cases h⟩

theorem holds : Rows.TurnWalksSaid :=
  OpenClaim.holds_of_wide 6 Try.f6 rfl rfl rfl rfl rfl rfl rfl ⟨rfl, rfl, rfl, rfl, rfl⟩ rfl rfl rfl rfl rfl (by kernel_rfl) Try.func6 (by kernel_rfl)
    (of_decide_eq_true (by kernel_rfl)) (by unfold Func.isWrapper; first | (rw [if_pos (by decide +kernel)]; kernel_rfl) | (rw [if_neg (by decide +kernel)]; exact ⟨rfl, rfl⟩))
    (fun os started H enc _ => lifted os started H enc)
end turnWalks
end Go.Proofs.Ytilcmkaibfolcaa
