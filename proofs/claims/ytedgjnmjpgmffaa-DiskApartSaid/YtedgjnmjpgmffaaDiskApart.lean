/- freeboardlaw04.DiskApart: for every input the law answers true, and what is handed in reads as it did. Conditions: none. -/
import Derived.Test.YtedgjnmjpgmffaaDevOpen
import Derived.Test.YtedgjnmjpgmffaaDiskP
import Derived.Test.YtedgjnmjpgmffaaDiskM
namespace Go.Proofs.Ytedgjnmjpgmffaa
open Go.ChangeShapes Go.WideShapes Go.ChangeAt Go.RowKit PolyM PackM FoldM DevM
set_option maxHeartbeats 8000000 in
set_option maxRecDepth 100000 in
theorem diskApart_walk (w : World) (v : Value) (d : Dev) (hv : DevV w v d) (k : Int) (wk : (Lit.int .i64 k).wf = true) (a : Option Addr) (q c : Nat) (zs : List Int) (hz : Ints .u8 w a q zs) (hqc : q ≤ c) (o : Int) (wo : (Lit.int .i64 o).wf = true) :
    Calls Try.prog 8 #[v, .int .i64 k, .slice a q c, .int .i64 o] w fun e w' => e = .returned (.bool true) ∧ Below w.heap.size w w' := by
  have hv0 := hv
  obtain ⟨A, n, C, hs, B, m, D, ht, rfl, _, _⟩ := hv
  have hB : Below w.heap.size w (w.alloc (.cells #[.slice A n C, .slice B m D, .bool d.dead] 25)) := (Below.refl _ _).alloc (Nat.le_refl _) _
  have x0 := BoxD.new w (.slice A n C) (.slice B m D) (.bool d.dead)
  have hd := fun W (hW : Below w.heap.size w W) => hv0.below hW (Nat.le_refl _)
  have ca := alive_calls (w.alloc (.cells #[.slice A n C, .slice B m D, .bool d.dead] 25))
  have cg := fun W (hW : Below w.heap.size w W) => great_calls _ d W (hd W hW)
  have cw := fun W (hW : Below w.heap.size w W) => write_calls _ d k a q c zs W (hd W hW) (hz.below hW (Nat.le_refl _))
  have cf := fun W (hW : Below w.heap.size w W) => fua_calls _ d k a q c zs W (hd W hW) (hz.below hW (Nat.le_refl _))
  have cr := fun W (hW : Below w.heap.size w W) => read_calls _ d o W (hd W hW)
  have cl := fun W (hW : Below w.heap.size w W) => lasting_calls _ d o W (hd W hW)
  have hqm := hz.max
  obtain ⟨k0, k1⟩ := bounds_i64 wk
  obtain ⟨o0, o1⟩ := bounds_i64 wo
  clear hv0 hd hz wk wo
  by_cases hG : GreatD d
  · rw [decide_eq_true hG] at cg
    clear hG cw cf cr cl
    generalize d.dead = dd at *
    go_enter Try.func8, Try.ntmps8
    go_wp2_with fail
    (with_reducible refine (ca).mono ?_)
    rintro e w1 ⟨rfl, hb1⟩
    replace x0 := x0.below hb1
    replace hB := hB.trans (hb1.mono hB.size)
    clear hb1 ca
    have c0_x0 := x0.c0
    have c1_x0 := x0.c1
    have c2_x0 := x0.c2
    go_wp2_with fail
    (with_reducible refine (cg _ hB).mono ?_)
    rintro e w2 ⟨rfl, hb2⟩
    replace x0 := x0.below hb2
    replace hB := hB.trans (hb2.mono hB.size)
    clear c0_x0 c1_x0 c2_x0
    clear hb2 cg
    go_wp2
    go_ret
    exact ⟨rfl, hB⟩
  · rw [decide_eq_false hG] at cg
    clear hG
    by_cases hlen : 1000 < q
    · have hl1 : (1000 : Int) < (q : Int) := by omega
      clear hlen cw cf cr cl
      generalize d.dead = dd at *
      go_enter Try.func8, Try.ntmps8
      go_wp2_with fail
      (with_reducible refine (ca).mono ?_)
      rintro e w1 ⟨rfl, hb1⟩
      replace x0 := x0.below hb1
      replace hB := hB.trans (hb1.mono hB.size)
      clear hb1 ca
      have c0_x0 := x0.c0
      have c1_x0 := x0.c1
      have c2_x0 := x0.c2
      go_wp2_with fail
      (with_reducible refine (cg _ hB).mono ?_)
      rintro e w2 ⟨rfl, hb2⟩
      replace x0 := x0.below hb2
      replace hB := hB.trans (hb2.mono hB.size)
      clear c0_x0 c1_x0 c2_x0
      clear hb2 cg
      go_wp2
      go_ret
      exact ⟨rfl, hB⟩
    have hl1 : (q : Int) ≤ 1000 := by omega
    clear hlen
    by_cases hko : k = o
    · have hk1 : (k == o) = true := by simp [hko]
      clear hko cw cf cr cl
      generalize d.dead = dd at *
      go_enter Try.func8, Try.ntmps8
      go_wp2_with fail
      (with_reducible refine (ca).mono ?_)
      rintro e w1 ⟨rfl, hb1⟩
      replace x0 := x0.below hb1
      replace hB := hB.trans (hb1.mono hB.size)
      clear hb1 ca
      have c0_x0 := x0.c0
      have c1_x0 := x0.c1
      have c2_x0 := x0.c2
      go_wp2_with fail
      (with_reducible refine (cg _ hB).mono ?_)
      rintro e w2 ⟨rfl, hb2⟩
      replace x0 := x0.below hb2
      replace hB := hB.trans (hb2.mono hB.size)
      clear c0_x0 c1_x0 c2_x0
      clear hb2 cg
      go_wp2
      go_ret
      exact ⟨rfl, hB⟩
    have hk1 : (k == o) = false := by simp [hko]
    have hr0 := useE_i64 d o []
    by_cases hu : useE d k zs = 0
    · have hMF := fua_may hu
      rw [hu, show resD 0 ⟨d.blocks.set k.toNat zs, d.wait.filter (keepB k), false⟩ = fuaD d k zs from rfl] at cf
      have crf := fun W u (h : DevV W u (fuaD d k zs)) => read_calls u (fuaD d k zs) o W h
      have clf := fun W u (h : DevV W u (fuaD d k zs)) => lasting_calls u (fuaD d k zs) o W h
      rw [fua_use hu, fua_seen hu hko] at crf
      rw [fua_use hu, fua_lies hu hko] at clf
      have hFd : (fuaD d k zs).dead = false := rfl
      generalize fuaD d k zs = fd at *
      by_cases hw : writeE d k zs = 0
      · have hMW := write_may hw
        rw [hw, show resD 0 ⟨d.blocks, d.wait ++ [(k, zs)], false⟩ = putD d k zs from rfl] at cw
        have crw := fun W u (h : DevV W u (putD d k zs)) => read_calls u (putD d k zs) o W h
        have clw := fun W u (h : DevV W u (putD d k zs)) => lasting_calls u (putD d k zs) o W h
        rw [put_use hw, put_seen hw hko] at crw
        rw [put_use hw, put_lies hw] at clw
        have hWd : (putD d k zs).dead = false := rfl
        generalize putD d k zs = pd at *
        generalize useE d o [] = er at *
        generalize resB er (seen d o) = r1 at *
        generalize resB er (lies d o) = r2 at *
        generalize d.dead = dd at *
        have HWd := Lib.hid hWd
        have HFd := Lib.hid hFd
        clear hu hw hko hMF hMW hWd hFd
        go_enter Try.func8, Try.ntmps8
        go_wp2_with fail
        (with_reducible refine (ca).mono ?_)
        rintro e w1 ⟨rfl, hb1⟩
        replace x0 := x0.below hb1
        replace hB := hB.trans (hb1.mono hB.size)
        clear hb1 ca
        have c0_x0 := x0.c0
        have c1_x0 := x0.c1
        have c2_x0 := x0.c2
        go_wp2_with fail
        (with_reducible refine (cg _ hB).mono ?_)
        rintro e w2 ⟨rfl, hb2⟩
        replace x0 := x0.below hb2
        replace hB := hB.trans (hb2.mono hB.size)
        clear c0_x0 c1_x0 c2_x0
        clear hb2 cg
        have c0_x0 := x0.c0
        have c1_x0 := x0.c1
        have c2_x0 := x0.c2
        go_wp2_with fail
        (with_reducible refine (cw _ hB).mono ?_)
        rintro e w3 ⟨v_xW, rfl, hN_xW, hb3⟩
        obtain ⟨A_xW, n_xW, C_xW, B_xW, m_xW, D_xW, rfl, hm_xW⟩ := hN_xW.form2 (by first | rfl | exact HWd.out)
        replace hb3 := hb3.alloc hb3.size (.cells #[.slice A_xW n_xW C_xW, .slice B_xW m_xW D_xW, .bool false] 25)
        have xW := InBox.new hN_xW (Eq.symm (by first | rfl | exact HWd.out))
        replace x0 := x0.below hb3
        replace hB := hB.trans (hb3.mono hB.size)
        clear c0_x0 c1_x0 c2_x0
        clear hN_xW hm_xW hb3 cw
        have c0_x0 := x0.c0
        have c1_x0 := x0.c1
        have c2_x0 := x0.c2
        go_wp2_with fail
        (with_reducible refine (cf _ hB).mono ?_)
        rintro e w4 ⟨v_xF, rfl, hN_xF, hb4⟩
        obtain ⟨A_xF, n_xF, C_xF, B_xF, m_xF, D_xF, rfl, hm_xF⟩ := hN_xF.form2 (by first | rfl | exact HFd.out)
        replace hb4 := hb4.alloc hb4.size (.cells #[.slice A_xF n_xF C_xF, .slice B_xF m_xF D_xF, .bool false] 25)
        have xF := InBox.new hN_xF (Eq.symm (by first | rfl | exact HFd.out))
        replace x0 := x0.below hb4
        replace xW := xW.below hb4
        replace hB := hB.trans (hb4.mono hB.size)
        clear c0_x0 c1_x0 c2_x0
        clear hN_xF hm_xF hb4 cf
        have c0_x0 := x0.c0
        have c1_x0 := x0.c1
        have c2_x0 := x0.c2
        go_wp2_with fail
        (with_reducible refine (cr _ hB).mono ?_)
        rintro e w5 ⟨A_ra, L_ra, C_ra, rfl, ra, hb5⟩
        replace x0 := x0.below hb5
        replace xW := xW.below hb5
        replace xF := xF.below hb5
        replace hB := hB.trans (hb5.mono hB.size)
        clear c0_x0 c1_x0 c2_x0
        replace ra := Lib.hid ra
        clear hb5 cr
        have c0_x0 := x0.c0
        have c1_x0 := x0.c1
        have c2_x0 := x0.c2
        go_wp2_with fail
        (with_reducible refine (cl _ hB).mono ?_)
        rintro e w6 ⟨A_rb, L_rb, C_rb, rfl, rb, hb6⟩
        replace x0 := x0.below hb6
        replace xW := xW.below hb6
        replace xF := xF.below hb6
        replace ra := Lib.hid (ra.out.below hb6)
        replace hB := hB.trans (hb6.mono hB.size)
        clear c0_x0 c1_x0 c2_x0
        replace rb := Lib.hid rb
        clear hb6 cl
        clear x0
        obtain ⟨c0_xW, c1_xW, c2_xW, -, d_xW, -⟩ := xW.cells
        go_wp2_with fail
        (with_reducible refine (crw _ _ d_xW).mono ?_)
        rintro e w7 ⟨A_rx, L_rx, C_rx, rfl, rx, hb7⟩
        replace xW := xW.below hb7
        replace xF := xF.below hb7
        replace ra := Lib.hid (ra.out.below hb7)
        replace rb := Lib.hid (rb.out.below hb7)
        replace hB := hB.trans (hb7.mono hB.size)
        clear c0_xW c1_xW c2_xW d_xW
        replace rx := Lib.hid rx
        clear hb7 crw
        obtain ⟨c0_xW, c1_xW, c2_xW, -, d_xW, -⟩ := xW.cells
        go_wp2_with fail
        (with_reducible refine (clw _ _ d_xW).mono ?_)
        rintro e w8 ⟨A_ry, L_ry, C_ry, rfl, ry, hb8⟩
        replace xW := xW.below hb8
        replace xF := xF.below hb8
        replace ra := Lib.hid (ra.out.below hb8)
        replace rb := Lib.hid (rb.out.below hb8)
        replace rx := Lib.hid (rx.out.below hb8)
        replace hB := hB.trans (hb8.mono hB.size)
        clear c0_xW c1_xW c2_xW d_xW
        replace ry := Lib.hid ry
        clear hb8 clw
        have t_ra := ra.out.text (Below.refl _ _)
        have t_rb := rb.out.text (Below.refl _ _)
        have t_rx := rx.out.text (Below.refl _ _)
        have t_ry := ry.out.text (Below.refl _ _)
        obtain ⟨c0_xF, c1_xF, c2_xF, -, d_xF, -⟩ := xF.cells
        go_wp2_with fail
        (with_reducible refine (crf _ _ d_xF).mono ?_)
        rintro e w9 ⟨A_rx2, L_rx2, C_rx2, rfl, rx2, hb9⟩
        replace xW := xW.below hb9
        replace xF := xF.below hb9
        replace ra := Lib.hid (ra.out.below hb9)
        replace rb := Lib.hid (rb.out.below hb9)
        replace rx := Lib.hid (rx.out.below hb9)
        replace ry := Lib.hid (ry.out.below hb9)
        replace hB := hB.trans (hb9.mono hB.size)
        clear c0_xF c1_xF c2_xF d_xF t_ra t_rb t_rx t_ry
        replace rx2 := Lib.hid rx2
        clear hb9 crf
        obtain ⟨c0_xF, c1_xF, c2_xF, -, d_xF, -⟩ := xF.cells
        go_wp2_with fail
        (with_reducible refine (clf _ _ d_xF).mono ?_)
        rintro e w10 ⟨A_ry2, L_ry2, C_ry2, rfl, ry2, hb10⟩
        replace xW := xW.below hb10
        replace xF := xF.below hb10
        replace ra := Lib.hid (ra.out.below hb10)
        replace rb := Lib.hid (rb.out.below hb10)
        replace rx := Lib.hid (rx.out.below hb10)
        replace ry := Lib.hid (ry.out.below hb10)
        replace rx2 := Lib.hid (rx2.out.below hb10)
        replace hB := hB.trans (hb10.mono hB.size)
        clear c0_xF c1_xF c2_xF d_xF
        replace ry2 := Lib.hid ry2
        clear hb10 clf
        have t_ra := ra.out.text (Below.refl _ _)
        have t_rb := rb.out.text (Below.refl _ _)
        have t_rx2 := rx2.out.text (Below.refl _ _)
        have t_ry2 := ry2.out.text (Below.refl _ _)
        go_wp2
        go_ret
        exact ⟨rfl, hB⟩
      · rw [show resD (writeE d k zs) ⟨d.blocks, d.wait ++ [(k, zs)], false⟩ = ⟨[], [], false⟩ from if_neg hw] at cw
        have hwi := writeE_i64 d k zs
        have hwn : (writeE d k zs == 0) = false := by simp [hw]
        generalize writeE d k zs = ew at *
        generalize useE d o [] = er at *
        generalize resB er (seen d o) = r1 at *
        generalize resB er (lies d o) = r2 at *
        generalize d.dead = dd at *
        have HFd := Lib.hid hFd
        clear hu hw hko hMF hFd
        go_enter Try.func8, Try.ntmps8
        go_wp2_with fail
        (with_reducible refine (ca).mono ?_)
        rintro e w1 ⟨rfl, hb1⟩
        replace x0 := x0.below hb1
        replace hB := hB.trans (hb1.mono hB.size)
        clear hb1 ca
        have c0_x0 := x0.c0
        have c1_x0 := x0.c1
        have c2_x0 := x0.c2
        go_wp2_with fail
        (with_reducible refine (cg _ hB).mono ?_)
        rintro e w2 ⟨rfl, hb2⟩
        replace x0 := x0.below hb2
        replace hB := hB.trans (hb2.mono hB.size)
        clear c0_x0 c1_x0 c2_x0
        clear hb2 cg
        have c0_x0 := x0.c0
        have c1_x0 := x0.c1
        have c2_x0 := x0.c2
        go_wp2_with fail
        (with_reducible refine (cw _ hB).mono ?_)
        rintro e w3 ⟨v_xW, rfl, hN_xW, hb3⟩
        obtain ⟨A_xW, n_xW, C_xW, B_xW, m_xW, D_xW, rfl, hm_xW⟩ := hN_xW.form2 rfl
        replace hb3 := hb3.alloc hb3.size (.cells #[.slice A_xW n_xW C_xW, .slice B_xW m_xW D_xW, .bool false] 25)
        have xW := InBox.new hN_xW (Eq.symm rfl)
        replace x0 := x0.below hb3
        replace hB := hB.trans (hb3.mono hB.size)
        clear c0_x0 c1_x0 c2_x0
        clear hN_xW hm_xW hb3 cw
        have c0_x0 := x0.c0
        have c1_x0 := x0.c1
        have c2_x0 := x0.c2
        go_wp2_with fail
        (with_reducible refine (cf _ hB).mono ?_)
        rintro e w4 ⟨v_xF, rfl, hN_xF, hb4⟩
        obtain ⟨A_xF, n_xF, C_xF, B_xF, m_xF, D_xF, rfl, hm_xF⟩ := hN_xF.form2 (by first | rfl | exact HFd.out)
        replace hb4 := hb4.alloc hb4.size (.cells #[.slice A_xF n_xF C_xF, .slice B_xF m_xF D_xF, .bool false] 25)
        have xF := InBox.new hN_xF (Eq.symm (by first | rfl | exact HFd.out))
        replace x0 := x0.below hb4
        replace xW := xW.below hb4
        replace hB := hB.trans (hb4.mono hB.size)
        clear c0_x0 c1_x0 c2_x0
        clear hN_xF hm_xF hb4 cf
        have c0_x0 := x0.c0
        have c1_x0 := x0.c1
        have c2_x0 := x0.c2
        go_wp2_with fail
        (with_reducible refine (cr _ hB).mono ?_)
        rintro e w5 ⟨A_ra, L_ra, C_ra, rfl, ra, hb5⟩
        replace x0 := x0.below hb5
        replace xW := xW.below hb5
        replace xF := xF.below hb5
        replace hB := hB.trans (hb5.mono hB.size)
        clear c0_x0 c1_x0 c2_x0
        replace ra := Lib.hid ra
        clear hb5 cr
        have c0_x0 := x0.c0
        have c1_x0 := x0.c1
        have c2_x0 := x0.c2
        go_wp2_with fail
        (with_reducible refine (cl _ hB).mono ?_)
        rintro e w6 ⟨A_rb, L_rb, C_rb, rfl, rb, hb6⟩
        replace x0 := x0.below hb6
        replace xW := xW.below hb6
        replace xF := xF.below hb6
        replace ra := Lib.hid (ra.out.below hb6)
        replace hB := hB.trans (hb6.mono hB.size)
        clear c0_x0 c1_x0 c2_x0
        replace rb := Lib.hid rb
        clear hb6 cl
        clear x0
        obtain ⟨c0_xF, c1_xF, c2_xF, -, d_xF, -⟩ := xF.cells
        go_wp2_with fail
        (with_reducible refine (crf _ _ d_xF).mono ?_)
        rintro e w7 ⟨A_rx2, L_rx2, C_rx2, rfl, rx2, hb7⟩
        replace xW := xW.below hb7
        replace xF := xF.below hb7
        replace ra := Lib.hid (ra.out.below hb7)
        replace rb := Lib.hid (rb.out.below hb7)
        replace hB := hB.trans (hb7.mono hB.size)
        clear c0_xF c1_xF c2_xF d_xF
        replace rx2 := Lib.hid rx2
        clear hb7 crf
        obtain ⟨c0_xF, c1_xF, c2_xF, -, d_xF, -⟩ := xF.cells
        go_wp2_with fail
        (with_reducible refine (clf _ _ d_xF).mono ?_)
        rintro e w8 ⟨A_ry2, L_ry2, C_ry2, rfl, ry2, hb8⟩
        replace xW := xW.below hb8
        replace xF := xF.below hb8
        replace ra := Lib.hid (ra.out.below hb8)
        replace rb := Lib.hid (rb.out.below hb8)
        replace rx2 := Lib.hid (rx2.out.below hb8)
        replace hB := hB.trans (hb8.mono hB.size)
        clear c0_xF c1_xF c2_xF d_xF
        replace ry2 := Lib.hid ry2
        clear hb8 clf
        have t_ra := ra.out.text (Below.refl _ _)
        have t_rb := rb.out.text (Below.refl _ _)
        have t_rx2 := rx2.out.text (Below.refl _ _)
        have t_ry2 := ry2.out.text (Below.refl _ _)
        go_wp2
        go_ret
        exact ⟨rfl, hB⟩
    · have hw : writeE d k zs = useE d k zs := if_pos hu
      rw [hw, show resD (useE d k zs) ⟨d.blocks, d.wait ++ [(k, zs)], false⟩ = ⟨[], [], false⟩ from if_neg hu] at cw
      rw [show resD (useE d k zs) ⟨d.blocks.set k.toNat zs, d.wait.filter (keepB k), false⟩ = ⟨[], [], false⟩ from if_neg hu] at cf
      have hui := useE_i64 d k zs
      have hun : (useE d k zs == 0) = false := by simp [hu]
      have hun2 : (useE d k zs != 0) = true := by simp [hu]
      generalize useE d k zs = eu at *
      generalize useE d o [] = er at *
      generalize resB er (seen d o) = r1 at *
      generalize resB er (lies d o) = r2 at *
      generalize d.dead = dd at *
      clear hu hw hko
      go_enter Try.func8, Try.ntmps8
      go_wp2_with fail
      (with_reducible refine (ca).mono ?_)
      rintro e w1 ⟨rfl, hb1⟩
      replace x0 := x0.below hb1
      replace hB := hB.trans (hb1.mono hB.size)
      clear hb1 ca
      have c0_x0 := x0.c0
      have c1_x0 := x0.c1
      have c2_x0 := x0.c2
      go_wp2_with fail
      (with_reducible refine (cg _ hB).mono ?_)
      rintro e w2 ⟨rfl, hb2⟩
      replace x0 := x0.below hb2
      replace hB := hB.trans (hb2.mono hB.size)
      clear c0_x0 c1_x0 c2_x0
      clear hb2 cg
      have c0_x0 := x0.c0
      have c1_x0 := x0.c1
      have c2_x0 := x0.c2
      go_wp2_with fail
      (with_reducible refine (cw _ hB).mono ?_)
      rintro e w3 ⟨v_xW, rfl, hN_xW, hb3⟩
      obtain ⟨A_xW, n_xW, C_xW, B_xW, m_xW, D_xW, rfl, hm_xW⟩ := hN_xW.form2 rfl
      replace hb3 := hb3.alloc hb3.size (.cells #[.slice A_xW n_xW C_xW, .slice B_xW m_xW D_xW, .bool false] 25)
      have xW := InBox.new hN_xW (Eq.symm rfl)
      replace x0 := x0.below hb3
      replace hB := hB.trans (hb3.mono hB.size)
      clear c0_x0 c1_x0 c2_x0
      clear hN_xW hm_xW hb3 cw
      have c0_x0 := x0.c0
      have c1_x0 := x0.c1
      have c2_x0 := x0.c2
      go_wp2_with fail
      (with_reducible refine (cf _ hB).mono ?_)
      rintro e w4 ⟨v_xF, rfl, hN_xF, hb4⟩
      obtain ⟨A_xF, n_xF, C_xF, B_xF, m_xF, D_xF, rfl, hm_xF⟩ := hN_xF.form3 rfl
      have hz_xF : ((n_xF : Int) == 0) = true := by rw [show n_xF = 0 from hm_xF]; rfl
      replace hb4 := hb4.alloc hb4.size (.cells #[.slice A_xF n_xF C_xF, .slice B_xF m_xF D_xF, .bool false] 25)
      have xF := InBox.new hN_xF (Eq.symm rfl)
      replace x0 := x0.below hb4
      replace xW := xW.below hb4
      replace hB := hB.trans (hb4.mono hB.size)
      clear c0_x0 c1_x0 c2_x0
      clear hN_xF hm_xF hb4 cf
      have c0_x0 := x0.c0
      have c1_x0 := x0.c1
      have c2_x0 := x0.c2
      go_wp2_with fail
      (with_reducible refine (cr _ hB).mono ?_)
      rintro e w5 ⟨A_ra, L_ra, C_ra, rfl, ra, hb5⟩
      replace x0 := x0.below hb5
      replace xW := xW.below hb5
      replace xF := xF.below hb5
      replace hB := hB.trans (hb5.mono hB.size)
      clear c0_x0 c1_x0 c2_x0
      replace ra := Lib.hid ra
      clear hb5 cr
      have c0_x0 := x0.c0
      have c1_x0 := x0.c1
      have c2_x0 := x0.c2
      go_wp2_with fail
      (with_reducible refine (cl _ hB).mono ?_)
      rintro e w6 ⟨A_rb, L_rb, C_rb, rfl, rb, hb6⟩
      replace x0 := x0.below hb6
      replace xW := xW.below hb6
      replace xF := xF.below hb6
      replace ra := Lib.hid (ra.out.below hb6)
      replace hB := hB.trans (hb6.mono hB.size)
      clear c0_x0 c1_x0 c2_x0
      replace rb := Lib.hid rb
      clear hb6 cl
      clear x0
      obtain ⟨c0_xF, c1_xF, c2_xF, -, d_xF, -⟩ := xF.cells
      go_wp2
      go_ret
      exact ⟨rfl, hB⟩

namespace diskApart
set_option linter.unusedVariables false
set_option maxRecDepth 100000 in
theorem lifted (os : Os) (started : os.Started) (H : Type) (enc : TypeId × Value → H) :
    ReturnsInHanded {} Try.checked os 8 .any (Rows.diskApartSpec.pre6 enc Try.prog Try.f8 Rows.diskApartRow.domain false) (Rows.diskApartSpec.post enc Try.prog Try.f8 false true false false) := by
  refine returnsInHanded_of_change (C := Try.checked) Try.own started (by kernel_rfl) Try.func8
    (ChangeSpec.witness6 (enc := enc) (C := Try.checked) false ⟨#[], #[.agg #[.slice none 0 0, .slice none 0 0, .bool false], .int .i64 0, .slice none 0 0, .int .i64 0], []⟩ 8 (by kernel_rfl) (by kernel_rfl) (by kernel_rfl) (by kernel_rfl)) ?_
  intro W base args ds gs before hval0 hW hcnd _
  have hval : ∀ (j : Nat) t v, Try.f8.params[j]? = some t → args[j]? = some v → Value.okWide Try.prog W .any base t v := hval0
  have hW' := hW
  obtain ⟨p, q, hA0, hV, rfl, hfz, hnd⟩ := hW
  have hA : DataW.TrodAll enc Try.prog W 0 (fun _ => true) true Try.f8.params.toList args.toList ds p := hA0
  rw [Try.params8] at hA hval
  obtain ⟨v0, vs0, d0, ds0, p0, q0, hargs, rfl, rfl, h0, r0⟩ := trodAll_cons hA
  obtain ⟨v1, vs1, d1, ds1, p1, q1, rfl, rfl, rfl, h1, r1⟩ := trodAll_cons r0
  obtain ⟨v2, vs2, d2, ds2, p2, q2, rfl, rfl, rfl, h2, r2⟩ := trodAll_cons r1
  obtain ⟨v3, vs3, d3, ds3, p3, q3, rfl, rfl, rfl, h3, r3⟩ := trodAll_cons r2
  obtain ⟨rfl, rfl, rfl⟩ := trodAll_nil r3
  obtain rfl : args = #[v0, v1, v2, v3] := by cases args; simp_all
  obtain ⟨rfl, rfl⟩ := trodVars_none hV
  have k0 := h0
  have lt0 : ∀ x ∈ p0, x.block < W.heap.size := by obtain ⟨m, hm⟩ := k0; exact DataW.trod_lt m _ _ _ hm
  obtain ⟨z0, w0⟩ := dev_in (hval 0 25 v0 rfl rfl) h0
  obtain ⟨a1, rfl, rfl, rfl, w1⟩ := open_int Try.underlying3 (hval 1 3 v1 rfl rfl) h1
  obtain ⟨a2, len2, cap2, rfl⟩ := okWide_slice Try.underlying29 (hval 2 29 v2 rfl rfl)
  have k2 := h2
  have lt2 : ∀ x ∈ p2, x.block < W.heap.size := by obtain ⟨m, hm⟩ := k2; exact DataW.trod_lt m _ _ _ hm
  obtain ⟨z2, w2, c2⟩ : ∃ zs, Ints .u8 W a2 len2 zs ∧ len2 ≤ cap2 := by
    obtain ⟨fuel, hf⟩ := h2
    rcases open_ints Try.underlying29 Try.underlying5 (by kernel_rfl) hf with ⟨hcs, _⟩ | ⟨x, l, c, zs, hcs, _, hl, hm, hz, _, hcell, hwz⟩
    · simp [Value.cells] at hcs
      obtain ⟨rfl, rfl, rfl⟩ := hcs
      exact ⟨[], ⟨rfl, by omega, by simp, .inl rfl⟩, by omega⟩
    · simp [Value.cells] at hcs
      obtain ⟨rfl, rfl, rfl⟩ := hcs
      exact ⟨_, Ints.of_cells hl hm (by simpa using hz) hcell hwz, hl⟩
  obtain ⟨a3, rfl, rfl, rfl, w3⟩ := open_int Try.underlying3 (hval 3 3 v3 rfl rfl) h3
  clear hA0 hval0
  refine (diskApart_walk W v0 z0 w0 a1 w1 a2 len2 cap2 z2 w2 c2 a3 w3).mono fun e W' ⟨he, bel⟩ => ?_
  subst he
  exact ⟨_, rfl, _, _, _, [], _, [], hW', trodAll_mk1 (shut_bool Try.underlying4 _), (trodAll_cons_mk (Below.trod Try.laidOut (by kernel_rfl) (of_decide_eq_true (by kernel_rfl)) k0 bel lt0) (trodAll_cons_mk (shut_int Try.underlying3 w1) (trodAll_cons_mk (Below.trod Try.laidOut (by kernel_rfl) (of_decide_eq_true (by kernel_rfl)) k2 bel lt2) (trodAll_cons_mk (shut_int Try.underlying3 w3) trodAll_mk0)))), rfl, bel.frame _, fun h => by cases h⟩

theorem holds : Rows.DiskApartSaid :=
  OpenClaim.holds_of_wide 8 Try.f8 rfl rfl rfl rfl rfl rfl rfl ⟨rfl, rfl, rfl, rfl, rfl⟩ rfl rfl rfl rfl rfl (by kernel_rfl) Try.func8 (by kernel_rfl)
    (of_decide_eq_true (by kernel_rfl)) (by unfold Func.isWrapper; first | (rw [if_pos (by decide +kernel)]; kernel_rfl) | (rw [if_neg (by decide +kernel)]; exact ⟨rfl, rfl⟩))
    (fun os started H enc _ => lifted os started H enc)
end diskApart
end Go.Proofs.Ytedgjnmjpgmffaa
