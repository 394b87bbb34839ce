/- freeboardlaw04.DiskFlushed: for every input the law answers true, and what is handed in reads as it did. Conditions: none. -/
import Derived.Test.YtedgjnmjpgmffaaDevOpen
import Derived.Test.YtedgjnmjpgmffaaDiskP
import Derived.Test.YtedgjnmjpgmffaaDiskM
import Derived.Test.YtedgjnmjpgmffaaDiskS
namespace Go.Proofs.Ytedgjnmjpgmffaa
open Go.ChangeShapes Go.WideShapes Go.ChangeAt Go.RowKit PolyM PackM FoldM DevM
set_option maxHeartbeats 4000000 in
set_option maxRecDepth 100000 in
theorem diskFlushed_walk (w : World) (v : Value) (d : Dev) (hv : DevV w v d) (k : Int) (wk : (Lit.int .i64 k).wf = true) :
    Calls Try.prog 7 #[v, .int .i64 k] w fun e w' => e = .returned (.bool true) ∧ Below w.heap.size w w' := by
  have hv0 := hv
  obtain ⟨A, n, C, hs, B, m, D, ht, rfl, _, _⟩ := hv
  have hb : Below w.heap.size w (w.alloc (.cells #[.slice A n C, .slice B m D, .bool d.dead] 25)) := (Below.refl _ _).alloc (Nat.le_refl _) _
  have x0 := BoxD.new w (.slice A n C) (.slice B m D) (.bool d.dead)
  have hd := fun W (hW : Below w.heap.size w W) => hv0.below hW (Nat.le_refl _)
  have ca := alive_calls (w.alloc (.cells #[.slice A n C, .slice B m D, .bool d.dead] 25))
  have cg := fun W (hW : Below w.heap.size w W) => great_calls _ d W (hd W hW)
  have cf := fun W (hW : Below w.heap.size w W) => flush_calls _ d W (hd W hW)
  clear hv0
  by_cases hG : GreatD d
  · rw [decide_eq_true hG] at cg
    clear hG cf hd
    go_enter Try.func7, Try.ntmps7
    go_wp2_with fail
    (with_reducible refine ca.mono ?_)
    rintro e w1 ⟨rfl, hb1⟩
    have x1 := x0.below hb1
    obtain ⟨e0, e1, e2⟩ : w1.cell? ⟨w.heap.size, 0, none⟩ = some (.slice A n C) ∧ w1.cell? ⟨w.heap.size, 1, none⟩ = some (.slice B m D) ∧ w1.cell? ⟨w.heap.size, 2, none⟩ = some (.bool d.dead) := ⟨x1.c0, x1.c1, x1.c2⟩
    have hB1 := hb.trans (hb1.mono hb.size)
    clear ca x0 hb hb1
    go_wp2_with fail
    (with_reducible refine (cg _ hB1).mono ?_)
    rintro e w2 ⟨rfl, hb2⟩
    clear cg
    go_wp2
    go_ret
    exact ⟨rfl, hB1.trans (hb2.mono hB1.size)⟩
  · rw [decide_eq_false hG] at cg
    clear hG
    by_cases hE : flushE d = 0
    · obtain ⟨hM, hdd⟩ := flushE_zero hE
      have hMf := flush_may hM hdd
      rw [hE, show resD 0 ⟨flushL d.blocks d.wait, [], false⟩ = flushD d from rfl] at cf
      have cf2 := fun W u (h : DevV W u (flushD d)) => flush_calls u (flushD d) W h
      rw [flushE_of hMf rfl, show resD 0 ⟨flushL (flushD d).blocks (flushD d).wait, [], false⟩ = flushD d from rfl] at cf2
      have cr := fun W (hW : Below w.heap.size w W) => read_calls _ d k W (hd W hW)
      have cl := fun W u (h : DevV W u (flushD d)) => lasting_calls u (flushD d) k W h
      have hu : useE (flushD d) k [] = useE d k [] := useE_same hM hMf (flushL_len _ _) (by rw [hdd]; rfl) k []
      rw [hu, flush_res hM k] at cl
      have cs := fun W u v (h : DevV W u (flushD d)) (h' : DevV W v (flushD d)) => same_calls u v (flushD d) (flushD d) W h h'
      rw [decide_eq_true (SameD.refl (flushD d))] at cs
      have cc := fun W u (h : DevV W u (flushD d)) => check_calls u (flushD d) W h
      rw [chk_may hMf] at cc
      have hui := useE_i64 d k []
      generalize useE d k [] = er at *
      generalize resB er (seen d k) = r at *
      clear hE hM hdd hMf hu
      have hfl : (flushD d).dead = false := rfl
      have hfw : (flushD d).wait.length = 0 := rfl
      generalize flushD d = fd at *
      generalize d.dead = dd at *
      go_enter Try.func7, Try.ntmps7
      go_wp2_with fail
      (with_reducible refine ca.mono ?_)
      rintro e w1 ⟨rfl, hb1⟩
      have x1 := x0.below hb1
      have e0 := x1.c0
      have e1 := x1.c1
      have e2 := x1.c2
      have hB1 := hb.trans (hb1.mono hb.size)
      clear ca x0 hb hb1
      go_wp2_with fail
      (with_reducible refine (cg _ hB1).mono ?_)
      rintro e w2 ⟨rfl, hb2⟩
      have x2 := x1.below hb2
      have hB2 := hB1.trans (hb2.mono hB1.size)
      clear cg e0 e1 e2 x1 hb2 hB1
      have e0 := x2.c0
      have e1 := x2.c1
      have e2 := x2.c2
      go_wp2_with fail
      (with_reducible refine (cf _ hB2).mono ?_)
      rintro e w3 ⟨v3, rfl, hN3, hb3⟩
      obtain ⟨A3, n3, C3, B3, m3, D3, rfl, hm3⟩ := hN3.form2 hfl
      have hm30 : m3 = 0 := hm3.trans hfw
      clear hm3
      subst hm30
      have hb4 := hb3.alloc hb3.size (.cells #[.slice A3 n3 C3, .slice B3 0 D3, .bool false] 25)
      have xF := InBox.new hN3 hfl.symm
      have x4 := x2.below hb4
      have hB4 := hB2.trans (hb4.mono hB2.size)
      obtain ⟨f0, f1, f2, -, dF, -⟩ := xF.cells
      have HF := Lib.hid hfl
      clear cf hN3 e0 e1 e2 x2 hb3 hb4 hB2 hfl hfw
      go_wp2_with fail
      (with_reducible refine (cf2 _ _ dF).mono ?_)
      rintro e w5 ⟨v5, rfl, hN5, hb5⟩
      obtain ⟨A5, n5, C5, B5, m5, D5, rfl, hm5⟩ := hN5.form2 HF.out
      clear hm5
      have hb6 := hb5.alloc hb5.size (.cells #[.slice A5 n5 C5, .slice B5 m5 D5, .bool false] 25)
      have xG := InBox.new hN5 HF.out.symm
      have xF6 := xF.below hb6
      have x6 := x4.below hb6
      have hB6 := hB4.trans (hb6.mono hB4.size)
      clear cf2 hN5 f0 f1 f2 dF xF x4 hb5 hb6 hB4
      have e0 := x6.c0
      have e1 := x6.c1
      have e2 := x6.c2
      go_wp2_with fail
      (with_reducible refine (cr _ hB6).mono ?_)
      rintro e w7 ⟨A7, L7, C7, rfl, hF7, hb7⟩
      have xF7 := xF6.below hb7
      have xG7 := xG.below hb7
      have hB7 := hB6.trans (hb7.mono hB6.size)
      obtain ⟨f0, f1, f2, -, dF, -⟩ := xF7.cells
      have hF7' := Lib.hid hF7
      clear cr e0 e1 e2 x6 xF6 xG hb7 hB6 hF7
      go_wp2_with fail
      (with_reducible refine (cl _ _ dF).mono ?_)
      rintro e w8 ⟨A8, L8, C8, rfl, hF8, hb8⟩
      have xF8 := xF7.below hb8
      have xG8 := xG7.below hb8
      have hB8 := hB7.trans (hb8.mono hB7.size)
      have hF7 := Lib.hid (hF7'.out.below hb8)
      have hF8' := Lib.hid hF8
      clear cl f0 f1 f2 dF xF7 xG7 hb8 hB7 hF7' hF8
      obtain ⟨f0, f1, f2, -, dF, -⟩ := xF8.cells
      obtain ⟨g0, g1, g2, -, dG, -⟩ := xG8.cells
      go_wp2_with fail
      (with_reducible refine (cs _ _ _ dF dG).mono ?_)
      rintro e w9 ⟨rfl, hb9⟩
      have xF9 := xF8.below hb9
      have hB9 := hB8.trans (hb9.mono hB8.size)
      have t1 := hF7.out.text hb9
      have t2 := hF8'.out.text hb9
      clear cs f0 f1 f2 g0 g1 g2 dF dG xF8 xG8 hb9 hB8 hF7 hF8'
      obtain ⟨f0, f1, f2, -, dF, -⟩ := xF9.cells
      go_wp2_with fail
      (with_reducible refine (cc _ _ dF).mono ?_)
      rintro e w10 ⟨rfl, hb10⟩
      clear cc
      go_wp2
      go_ret
      exact ⟨rfl, hB9.trans (hb10.mono hB9.size)⟩
    · have hx := flushE_ne hE
      rw [show resD (flushE d) ⟨flushL d.blocks d.wait, [], false⟩ = ⟨[], [], false⟩ from if_neg hE] at cf
      have cc := fun W (hW : Below w.heap.size w W) => check_calls _ d W (hd W hW)
      clear hE hd
      generalize d.dead = dd at *
      rcases hx with ⟨q1, q2⟩ | ⟨q1, q2⟩
      · rw [q1] at cf
        rw [q2] at cc
        clear q1 q2
        go_enter Try.func7, Try.ntmps7
        go_wp2_with fail
        (with_reducible refine ca.mono ?_)
        rintro e w1 ⟨rfl, hb1⟩
        have x1 := x0.below hb1
        have e0 := x1.c0
        have e1 := x1.c1
        have e2 := x1.c2
        have hB1 := hb.trans (hb1.mono hb.size)
        clear ca x0 hb hb1
        go_wp2_with fail
        (with_reducible refine (cg _ hB1).mono ?_)
        rintro e w2 ⟨rfl, hb2⟩
        have x2 := x1.below hb2
        have hB2 := hB1.trans (hb2.mono hB1.size)
        clear cg e0 e1 e2 x1 hb2 hB1
        have e0 := x2.c0
        have e1 := x2.c1
        have e2 := x2.c2
        go_wp2_with fail
        (with_reducible refine (cf _ hB2).mono ?_)
        rintro e w3 ⟨v3, rfl, hN3, hb3⟩
        obtain ⟨A3, n3, C3, B3, m3, D3, rfl, hm3⟩ := hN3.form2 rfl
        clear hm3
        have hb4 := hb3.alloc hb3.size (.cells #[.slice A3 n3 C3, .slice B3 m3 D3, .bool false] 25)
        have x4 := x2.below hb4
        have hB4 := hB2.trans (hb4.mono hB2.size)
        clear cf hN3 e0 e1 e2 x2 hb3 hb4 hB2
        have e0 := x4.c0
        have e1 := x4.c1
        have e2 := x4.c2
        go_wp2_with fail
        (with_reducible refine (cc _ hB4).mono ?_)
        rintro e w5 ⟨rfl, hb5⟩
        clear cc
        go_wp2
        go_ret
        exact ⟨rfl, hB4.trans (hb5.mono hB4.size)⟩
      · subst q2
        rw [q1] at cf
        clear q1 cc
        go_enter Try.func7, Try.ntmps7
        go_wp2_with fail
        (with_reducible refine ca.mono ?_)
        rintro e w1 ⟨rfl, hb1⟩
        have x1 := x0.below hb1
        have e0 := x1.c0
        have e1 := x1.c1
        have e2 := x1.c2
        have hB1 := hb.trans (hb1.mono hb.size)
        clear ca x0 hb hb1
        go_wp2_with fail
        (with_reducible refine (cg _ hB1).mono ?_)
        rintro e w2 ⟨rfl, hb2⟩
        have x2 := x1.below hb2
        have hB2 := hB1.trans (hb2.mono hB1.size)
        clear cg e0 e1 e2 x1 hb2 hB1
        have e0 := x2.c0
        have e1 := x2.c1
        have e2 := x2.c2
        go_wp2_with fail
        (with_reducible refine (cf _ hB2).mono ?_)
        rintro e w3 ⟨v3, rfl, hN3, hb3⟩
        obtain ⟨A3, n3, C3, B3, m3, D3, rfl, hm3⟩ := hN3.form2 rfl
        clear hm3
        have hb4 := hb3.alloc hb3.size (.cells #[.slice A3 n3 C3, .slice B3 m3 D3, .bool false] 25)
        have x4 := x2.below hb4
        have hB4 := hB2.trans (hb4.mono hB2.size)
        clear cf hN3 e0 e1 e2 x2 hb3 hb4 hB2
        have e0 := x4.c0
        have e1 := x4.c1
        have e2 := x4.c2
        go_wp2
        go_ret
        exact ⟨rfl, hB4⟩

namespace diskFlushed
set_option linter.unusedVariables false
set_option maxRecDepth 100000 in
theorem lifted (os : Os) (started : os.Started) (H : Type) (enc : TypeId × Value → H) :
    ReturnsInHanded {} Try.checked os 7 .any (Rows.diskFlushedSpec.pre6 enc Try.prog Try.f7 Rows.diskFlushedRow.domain false) (Rows.diskFlushedSpec.post enc Try.prog Try.f7 false true false false) := by
  refine returnsInHanded_of_change (C := Try.checked) Try.own started (by kernel_rfl) Try.func7
    (ChangeSpec.witness6 (enc := enc) (C := Try.checked) false ⟨#[], #[.agg #[.slice none 0 0, .slice none 0 0, .bool false], .int .i64 0], []⟩ 8 (by kernel_rfl) (by kernel_rfl) (by kernel_rfl) (by kernel_rfl)) ?_
  intro W base args ds gs before hval0 hW hcnd _
  have hval : ∀ (j : Nat) t v, Try.f7.params[j]? = some t → args[j]? = some v → Value.okWide Try.prog W .any base t v := hval0
  have hW' := hW
  obtain ⟨p, q, hA0, hV, rfl, hfz, hnd⟩ := hW
  have hA : DataW.TrodAll enc Try.prog W 0 (fun _ => true) true Try.f7.params.toList args.toList ds p := hA0
  rw [Try.params7] at hA hval
  obtain ⟨v0, vs0, d0, ds0, p0, q0, hargs, rfl, rfl, h0, r0⟩ := trodAll_cons hA
  obtain ⟨v1, vs1, d1, ds1, p1, q1, rfl, rfl, rfl, h1, r1⟩ := trodAll_cons r0
  obtain ⟨rfl, rfl, rfl⟩ := trodAll_nil r1
  obtain rfl : args = #[v0, v1] := by cases args; simp_all
  obtain ⟨rfl, rfl⟩ := trodVars_none hV
  have k0 := h0
  have lt0 : ∀ x ∈ p0, x.block < W.heap.size := by obtain ⟨m, hm⟩ := k0; exact DataW.trod_lt m _ _ _ hm
  obtain ⟨z0, w0⟩ := dev_in (hval 0 25 v0 rfl rfl) h0
  obtain ⟨a1, rfl, rfl, rfl, w1⟩ := open_int Try.underlying3 (hval 1 3 v1 rfl rfl) h1
  clear hA0 hval0
  refine (diskFlushed_walk W v0 z0 w0 a1 w1).mono fun e W' ⟨he, bel⟩ => ?_
  subst he
  exact ⟨_, rfl, _, _, _, [], _, [], hW', trodAll_mk1 (shut_bool Try.underlying4 _), (trodAll_cons_mk (Below.trod Try.laidOut (by kernel_rfl) (of_decide_eq_true (by kernel_rfl)) k0 bel lt0) (trodAll_cons_mk (shut_int Try.underlying3 w1) trodAll_mk0)), rfl, bel.frame _, fun h => by cases h⟩

theorem holds : Rows.DiskFlushedSaid :=
  OpenClaim.holds_of_wide 7 Try.f7 rfl rfl rfl rfl rfl rfl rfl ⟨rfl, rfl, rfl, rfl, rfl⟩ rfl rfl rfl rfl rfl (by kernel_rfl) Try.func7 (by kernel_rfl)
    (of_decide_eq_true (by kernel_rfl)) (by unfold Func.isWrapper; first | (rw [if_pos (by decide +kernel)]; kernel_rfl) | (rw [if_neg (by decide +kernel)]; exact ⟨rfl, rfl⟩))
    (fun os started H enc _ => lifted os started H enc)
end diskFlushed
end Go.Proofs.Ytedgjnmjpgmffaa
