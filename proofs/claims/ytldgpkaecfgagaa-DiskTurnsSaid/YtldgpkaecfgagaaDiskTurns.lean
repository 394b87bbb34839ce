/- freeboardlaw04.DiskTurns: for every input the law answers true, and what is handed in reads as it did. Conditions: none. -/
import Derived.Test.YtldgpkaecfgagaaDevOpen
import Derived.Test.YtldgpkaecfgagaaRefDI
namespace Go.Proofs.Ytldgpkaecfgagaa
open Go.ChangeShapes Go.WideShapes Go.ChangeAt Go.RowKit PolyM PackM FoldM DevM
set_option maxHeartbeats 16000000 in
set_option maxRecDepth 100000 in
theorem diskTurns_walk (w : World) (v : Value) (d : Dev) (hv : DevV w v d) (k : Int) (_wk : (Lit.int .i64 k).wf = true) (a : Option Addr) (q c : Nat) (zs : List Int) (hz : Ints .u8 w a q zs) (_hqc : q ≤ c) :
    Calls Try.prog 5 #[v, .int .i64 k, .slice a q c] w fun e w' => e = .returned (.bool true) ∧ Below w.heap.size w w' := by
  have hv0 := hv
  obtain ⟨A, n, C, hs, B, m, D, ht, rfl, _, _⟩ := hv
  have hB : Below w.heap.size w (w.alloc (.cells #[.slice A n C, .slice B m D, .bool d.dead] 25)) := (Below.refl _ _).alloc (Nat.le_refl _) _
  have x0 := BoxD.new w (.slice A n C) (.slice B m D) (.bool d.dead)
  have hd := fun W (hW : Below w.heap.size w W) => hv0.below hW (Nat.le_refl _)
  have cg := fun W (hW : Below w.heap.size w W) => great_calls _ d W (hd W hW)
  have hqm := hz.max
  clear hv0
  by_cases hG : GreatD d
  · rw [decide_eq_true hG] at cg
    clear hG hd hz
    generalize d.dead = dd at *
    go_enter Try.func5, Try.ntmps5
    have c0_x0 := x0.c0
    have c1_x0 := x0.c1
    have c2_x0 := x0.c2
    go_wp2_with fail
    (with_reducible refine (cg _ hB).mono ?_)
    rintro e w1 ⟨rfl, hb1⟩
    replace x0 := x0.below hb1
    replace hB := hB.trans (hb1.mono hB.size)
    clear c0_x0 c1_x0 c2_x0
    clear hb1 cg
    go_wp2
    go_ret
    exact ⟨rfl, hB⟩
  rw [decide_eq_false hG] at cg
  by_cases hq : 1000 < q
  · have hl1 : (1000 : Int) < (q : Int) := by omega
    clear hG hd hz hq
    generalize d.dead = dd at *
    go_enter Try.func5, Try.ntmps5
    have c0_x0 := x0.c0
    have c1_x0 := x0.c1
    have c2_x0 := x0.c2
    go_wp2_with fail
    (with_reducible refine (cg _ hB).mono ?_)
    rintro e w1 ⟨rfl, hb1⟩
    replace x0 := x0.below hb1
    replace hB := hB.trans (hb1.mono hB.size)
    clear c0_x0 c1_x0 c2_x0
    clear hb1 cg
    go_wp2
    go_ret
    exact ⟨rfl, hB⟩
  have hl1 : (q : Int) ≤ 1000 := by omega
  obtain ⟨s1, s2, s3, s4⟩ := not_great hG
  have sd := small_of hG
  have hq1 : zs.length ≤ 1000000 := by have := hz.len; omega
  have ct := fun W (hW : Below w.heap.size w W) => reftwin_calls _ d W (hd W hW) s1 s2 sd.1 sd.2
  have cw := fun W u (h : DevV W u d) (hW : Below w.heap.size w W) => write_calls u d k a q c zs W h (hz.below hW (Nat.le_refl _))
  have cW := fun W (hW : Below w.heap.size w W) => refwrite_calls _ d k a q c zs W (hd W hW) (hz.below hW (Nat.le_refl _))
  have cf := fun W u (h : DevV W u d) (hW : Below w.heap.size w W) => fua_calls u d k a q c zs W h (hz.below hW (Nat.le_refl _))
  have cF := fun W (hW : Below w.heap.size w W) => reffua_calls _ d k a q c zs W (hd W hW) (hz.below hW (Nat.le_refl _))
  have ci := fun W u (h : DevV W u d) => flush_calls u d W h
  have cI := fun W (hW : Below w.heap.size w W) => refflush_calls _ d W (hd W hW)
  have cm := fun W u (h : DevV W u d) => kill_calls u d W h
  have cM := fun W (hW : Below w.heap.size w W) => refkill_calls _ d W (hd W hW)
  have al1 := Lib.hid (put_alike d k zs sd hq1)
  have al2 := Lib.hid (fua_alike d k zs sd hq1)
  have al3 := Lib.hid (flush_alike d)
  obtain ⟨kd, al4'⟩ := kill_alike d
  have al4 := Lib.hid al4'
  clear al4'
  have csd := fun W u (h : DevV W u d) (hW : Below w.heap.size w W) => refsame_calls u _ d d W h (hd W hW) sd sd
  rw [decide_eq_true (SameD.refl d)] at csd
  have tz := fun W (hW : Below w.heap.size w W) => (hz.below hW (Nat.le_refl _)).text (c := c) (P := Try.prog) Try.underlying29 Try.underlying5 Try.underlying9
  generalize resD (writeE d k zs) ⟨d.blocks, d.wait ++ [(k, zs)], false⟩ = p1 at *
  generalize resD (writeE d k zs) (refPut d k zs) = p2 at *
  generalize resD (useE d k zs) ⟨d.blocks.set k.toNat zs, d.wait.filter (keepB k), false⟩ = f1 at *
  generalize resD (useE d k zs) (refSure d k zs) = f2 at *
  generalize resD (flushE d) ⟨flushL d.blocks d.wait, [], false⟩ = i1 at *
  generalize resD (flushE d) (refFlushed d) = i2 at *
  generalize (if MayD d then (⟨List.replicate d.blocks.length [], [], true⟩ : Dev) else ⟨[], [], false⟩) = m1 at *
  generalize writeE d k zs = ew at *
  generalize useE d k zs = eu at *
  generalize flushE d = ef at *
  generalize chk d = ec at *
  have cs : ∀ (dd : Bool) (x y : Dev), Hid (Alike dd x y) → ∀ W u v, DevV W u x → DevV W v y → Calls Try.prog 29 #[u, v] W fun e w' => e = .returned (.bool true) ∧ Below W.heap.size W w' := fun dd x y h W u v hu hv => by
    have := refsame_calls u v x y W hu hv h.out.s1 h.out.s2
    rwa [decide_eq_true h.out.same] at this
  clear hd s1 s2 s3 s4 sd hG hq hz hq1
  generalize hdd' : d.dead = dd at *
  have hdd := Lib.hid hdd'
  clear hdd'
  go_enter Try.func5, Try.ntmps5
  have c0_x0 := x0.c0
  have c1_x0 := x0.c1
  have c2_x0 := x0.c2
  go_wp2_with fail
  (with_reducible refine (cg _ hB).mono ?_)
  rintro e w1 ⟨rfl, hb1⟩
  replace x0 := x0.below hb1
  replace hB := hB.trans (hb1.mono hB.size)
  clear c0_x0 c1_x0 c2_x0
  clear hb1 cg
  have c0_x0 := x0.c0
  have c1_x0 := x0.c1
  have c2_x0 := x0.c2
  go_wp2_with fail
  (with_reducible refine (ct _ hB).mono ?_)
  rintro e w2 ⟨v_xo, rfl, hN_xo, hb2⟩
  obtain ⟨A_xo, n_xo, C_xo, B_xo, m_xo, D_xo, rfl, hm_xo⟩ := hN_xo.form4 hdd.out
  replace hb2 := hb2.alloc hb2.size (.cells #[.slice A_xo n_xo C_xo, .slice B_xo m_xo D_xo, .bool dd] 25)
  have xo := InBox.new hN_xo (Eq.symm hdd.out)
  replace x0 := x0.below hb2
  replace hB := hB.trans (hb2.mono hB.size)
  clear c0_x0 c1_x0 c2_x0
  clear hN_xo hm_xo hb2 ct
  have Ho := Below.refl (w2.alloc (.cells #[.slice A_xo n_xo C_xo, .slice B_xo m_xo D_xo, .bool dd] 25)).heap.size (w2.alloc (.cells #[.slice A_xo n_xo C_xo, .slice B_xo m_xo D_xo, .bool dd] 25))
  have xo_o := Lib.hid xo
  have x0_o := Lib.hid x0
  have hB_o := Lib.hid hB
  have t0 := tz _ hB
  have O_xa := Lib.hid Ho.size
  obtain ⟨c0_xo, c1_xo, c2_xo, -, d_xo, -⟩ := xo.cells
  go_wp2_with fail
  (with_reducible refine (cw _ _ d_xo hB).mono ?_)
  rintro e w3 ⟨v_xa, rfl, hN_xa, hb3⟩
  obtain ⟨A_xa, n_xa, C_xa, B_xa, m_xa, D_xa, rfl, hm_xa⟩ := hN_xa.form4 (al1.out.d1)
  have S_xa := SpBox.new hN_xa hb3.size
  have F_xa : w3.heap.size ≤ (w3.alloc (.cells #[.slice A_xa n_xa C_xa, .slice B_xa m_xa D_xa, .bool false] 25)).heap.size := by simp
  replace hb3 := hb3.alloc hb3.size (.cells #[.slice A_xa n_xa C_xa, .slice B_xa m_xa D_xa, .bool false] 25)
  have xa := InBox.new hN_xa (Eq.symm (al1.out.d1))
  replace x0 := x0.below hb3
  replace xo := xo.below hb3
  replace Ho := Ho.trans (hb3.mono Ho.size)
  replace hB := hB.trans (hb3.mono hB.size)
  clear t0 c0_xo c1_xo c2_xo d_xo
  clear hN_xa hm_xa hb3 cw
  have c0_x0 := x0.c0
  have c1_x0 := x0.c1
  have c2_x0 := x0.c2
  go_wp2_with fail
  (with_reducible refine (cW _ hB).mono ?_)
  rintro e w4 ⟨v_xb, rfl, hN_xb, hb4⟩
  obtain ⟨A_xb, n_xb, C_xb, B_xb, m_xb, D_xb, rfl, hm_xb⟩ := hN_xb.form4 (al1.out.d2)
  replace hb4 := hb4.alloc hb4.size (.cells #[.slice A_xb n_xb C_xb, .slice B_xb m_xb D_xb, .bool false] 25)
  have xb := InBox.new hN_xb (Eq.symm (al1.out.d2))
  replace x0 := x0.below hb4
  replace xo := xo.below hb4
  replace xa := xa.below hb4
  replace Ho := Ho.trans (hb4.mono Ho.size)
  replace S_xa := S_xa.below hb4
  replace F_xa := Nat.le_trans F_xa hb4.size
  replace hB := hB.trans (hb4.mono hB.size)
  clear c0_x0 c1_x0 c2_x0
  clear hN_xb hm_xb hb4 cW
  have F_xa_xc := Lib.hid F_xa
  have O_xc := Lib.hid Ho.size
  obtain ⟨c0_xo, c1_xo, c2_xo, -, d_xo, -⟩ := xo.cells
  go_wp2_with fail
  (with_reducible refine (cf _ _ d_xo hB).mono ?_)
  rintro e w5 ⟨v_xc, rfl, hN_xc, hb5⟩
  obtain ⟨A_xc, n_xc, C_xc, B_xc, m_xc, D_xc, rfl, hm_xc⟩ := hN_xc.form4 (al2.out.d1)
  have S_xc := SpBox.new hN_xc hb5.size
  have F_xc : w5.heap.size ≤ (w5.alloc (.cells #[.slice A_xc n_xc C_xc, .slice B_xc m_xc D_xc, .bool false] 25)).heap.size := by simp
  replace hb5 := hb5.alloc hb5.size (.cells #[.slice A_xc n_xc C_xc, .slice B_xc m_xc D_xc, .bool false] 25)
  have xc := InBox.new hN_xc (Eq.symm (al2.out.d1))
  replace x0 := x0.below hb5
  replace xo := xo.below hb5
  replace xa := xa.below hb5
  replace xb := xb.below hb5
  replace Ho := Ho.trans (hb5.mono Ho.size)
  replace S_xa := S_xa.below hb5
  replace F_xa := Nat.le_trans F_xa hb5.size
  replace hB := hB.trans (hb5.mono hB.size)
  clear c0_xo c1_xo c2_xo d_xo
  clear hN_xc hm_xc hb5 cf
  have c0_x0 := x0.c0
  have c1_x0 := x0.c1
  have c2_x0 := x0.c2
  go_wp2_with fail
  (with_reducible refine (cF _ hB).mono ?_)
  rintro e w6 ⟨v_xp, rfl, hN_xp, hb6⟩
  obtain ⟨A_xp, n_xp, C_xp, B_xp, m_xp, D_xp, rfl, hm_xp⟩ := hN_xp.form4 (al2.out.d2)
  replace hb6 := hb6.alloc hb6.size (.cells #[.slice A_xp n_xp C_xp, .slice B_xp m_xp D_xp, .bool false] 25)
  have xp := InBox.new hN_xp (Eq.symm (al2.out.d2))
  replace x0 := x0.below hb6
  replace xo := xo.below hb6
  replace xa := xa.below hb6
  replace xb := xb.below hb6
  replace xc := xc.below hb6
  replace Ho := Ho.trans (hb6.mono Ho.size)
  replace S_xa := S_xa.below hb6
  replace F_xa := Nat.le_trans F_xa hb6.size
  replace S_xc := S_xc.below hb6
  replace F_xc := Nat.le_trans F_xc hb6.size
  replace hB := hB.trans (hb6.mono hB.size)
  clear c0_x0 c1_x0 c2_x0
  clear hN_xp hm_xp hb6 cF
  have F_xa_xi := Lib.hid F_xa
  have F_xc_xi := Lib.hid F_xc
  have O_xi := Lib.hid Ho.size
  obtain ⟨c0_xo, c1_xo, c2_xo, -, d_xo, -⟩ := xo.cells
  go_wp2_with fail
  (with_reducible refine (ci _ _ d_xo).mono ?_)
  rintro e w7 ⟨v_xi, rfl, hN_xi, hb7⟩
  obtain ⟨A_xi, n_xi, C_xi, B_xi, m_xi, D_xi, rfl, hm_xi⟩ := hN_xi.form4 (al3.out.d1)
  have S_xi := SpBox.new hN_xi hb7.size
  have F_xi : w7.heap.size ≤ (w7.alloc (.cells #[.slice A_xi n_xi C_xi, .slice B_xi m_xi D_xi, .bool false] 25)).heap.size := by simp
  replace hb7 := hb7.alloc hb7.size (.cells #[.slice A_xi n_xi C_xi, .slice B_xi m_xi D_xi, .bool false] 25)
  have xi := InBox.new hN_xi (Eq.symm (al3.out.d1))
  replace x0 := x0.below hb7
  replace xo := xo.below hb7
  replace xa := xa.below hb7
  replace xb := xb.below hb7
  replace xc := xc.below hb7
  replace xp := xp.below hb7
  replace Ho := Ho.trans (hb7.mono Ho.size)
  replace S_xa := S_xa.below hb7
  replace F_xa := Nat.le_trans F_xa hb7.size
  replace S_xc := S_xc.below hb7
  replace F_xc := Nat.le_trans F_xc hb7.size
  replace hB := hB.trans (hb7.mono hB.size)
  clear c0_xo c1_xo c2_xo d_xo
  clear hN_xi hm_xi hb7 ci
  have c0_x0 := x0.c0
  have c1_x0 := x0.c1
  have c2_x0 := x0.c2
  go_wp2_with fail
  (with_reducible refine (cI _ hB).mono ?_)
  rintro e w8 ⟨v_xk, rfl, hN_xk, hb8⟩
  obtain ⟨A_xk, n_xk, C_xk, B_xk, m_xk, D_xk, rfl, hm_xk⟩ := hN_xk.form4 (al3.out.d2)
  replace hb8 := hb8.alloc hb8.size (.cells #[.slice A_xk n_xk C_xk, .slice B_xk m_xk D_xk, .bool false] 25)
  have xk := InBox.new hN_xk (Eq.symm (al3.out.d2))
  replace x0 := x0.below hb8
  replace xo := xo.below hb8
  replace xa := xa.below hb8
  replace xb := xb.below hb8
  replace xc := xc.below hb8
  replace xp := xp.below hb8
  replace xi := xi.below hb8
  replace Ho := Ho.trans (hb8.mono Ho.size)
  replace S_xa := S_xa.below hb8
  replace F_xa := Nat.le_trans F_xa hb8.size
  replace S_xc := S_xc.below hb8
  replace F_xc := Nat.le_trans F_xc hb8.size
  replace S_xi := S_xi.below hb8
  replace F_xi := Nat.le_trans F_xi hb8.size
  replace hB := hB.trans (hb8.mono hB.size)
  clear c0_x0 c1_x0 c2_x0
  clear hN_xk hm_xk hb8 cI
  have F_xa_xm := Lib.hid F_xa
  have F_xc_xm := Lib.hid F_xc
  have F_xi_xm := Lib.hid F_xi
  have O_xm := Lib.hid Ho.size
  obtain ⟨c0_xo, c1_xo, c2_xo, -, d_xo, -⟩ := xo.cells
  go_wp2_with fail
  (with_reducible refine (cm _ _ d_xo).mono ?_)
  rintro e w9 ⟨v_xm, rfl, hN_xm, hb9⟩
  obtain ⟨A_xm, n_xm, C_xm, B_xm, m_xm, D_xm, rfl, hm_xm⟩ := hN_xm.form4 (al4.out.d1)
  have S_xm := SpBox.new hN_xm hb9.size
  have F_xm : w9.heap.size ≤ (w9.alloc (.cells #[.slice A_xm n_xm C_xm, .slice B_xm m_xm D_xm, .bool kd] 25)).heap.size := by simp
  replace hb9 := hb9.alloc hb9.size (.cells #[.slice A_xm n_xm C_xm, .slice B_xm m_xm D_xm, .bool kd] 25)
  have xm := InBox.new hN_xm (Eq.symm (al4.out.d1))
  replace x0 := x0.below hb9
  replace xo := xo.below hb9
  replace xa := xa.below hb9
  replace xb := xb.below hb9
  replace xc := xc.below hb9
  replace xp := xp.below hb9
  replace xi := xi.below hb9
  replace xk := xk.below hb9
  replace Ho := Ho.trans (hb9.mono Ho.size)
  replace S_xa := S_xa.below hb9
  replace F_xa := Nat.le_trans F_xa hb9.size
  replace S_xc := S_xc.below hb9
  replace F_xc := Nat.le_trans F_xc hb9.size
  replace S_xi := S_xi.below hb9
  replace F_xi := Nat.le_trans F_xi hb9.size
  replace hB := hB.trans (hb9.mono hB.size)
  clear c0_xo c1_xo c2_xo d_xo
  clear hN_xm hm_xm hb9 cm
  have c0_x0 := x0.c0
  have c1_x0 := x0.c1
  have c2_x0 := x0.c2
  go_wp2_with fail
  (with_reducible refine (cM _ hB).mono ?_)
  rintro e w10 ⟨v_xx, rfl, hN_xx, hb10⟩
  obtain ⟨A_xx, n_xx, C_xx, B_xx, m_xx, D_xx, rfl, hm_xx⟩ := hN_xx.form4 (al4.out.d2)
  replace hb10 := hb10.alloc hb10.size (.cells #[.slice A_xx n_xx C_xx, .slice B_xx m_xx D_xx, .bool kd] 25)
  have xx := InBox.new hN_xx (Eq.symm (al4.out.d2))
  replace x0 := x0.below hb10
  replace xo := xo.below hb10
  replace xa := xa.below hb10
  replace xb := xb.below hb10
  replace xc := xc.below hb10
  replace xp := xp.below hb10
  replace xi := xi.below hb10
  replace xk := xk.below hb10
  replace xm := xm.below hb10
  replace Ho := Ho.trans (hb10.mono Ho.size)
  replace S_xa := S_xa.below hb10
  replace F_xa := Nat.le_trans F_xa hb10.size
  replace S_xc := S_xc.below hb10
  replace F_xc := Nat.le_trans F_xc hb10.size
  replace S_xi := S_xi.below hb10
  replace F_xi := Nat.le_trans F_xi hb10.size
  replace S_xm := S_xm.below hb10
  replace F_xm := Nat.le_trans F_xm hb10.size
  replace hB := hB.trans (hb10.mono hB.size)
  clear c0_x0 c1_x0 c2_x0
  clear hN_xx hm_xx hb10 cM
  obtain ⟨c0_xa, c1_xa, c2_xa, -, d_xa, -⟩ := xa.cells
  obtain ⟨c0_xb, c1_xb, c2_xb, -, d_xb, -⟩ := xb.cells
  go_wp2_with fail
  (with_reducible refine (cs _ _ _ al1 _ _ _ d_xa d_xb).mono ?_)
  rintro e w11 ⟨rfl, hb11⟩
  replace x0 := x0.below hb11
  replace xo := xo.below hb11
  replace xa := xa.below hb11
  replace xb := xb.below hb11
  replace xc := xc.below hb11
  replace xp := xp.below hb11
  replace xi := xi.below hb11
  replace xk := xk.below hb11
  replace xm := xm.below hb11
  replace xx := xx.below hb11
  replace Ho := Ho.trans (hb11.mono Ho.size)
  replace S_xa := S_xa.below hb11
  replace F_xa := Nat.le_trans F_xa hb11.size
  replace S_xc := S_xc.below hb11
  replace F_xc := Nat.le_trans F_xc hb11.size
  replace S_xi := S_xi.below hb11
  replace F_xi := Nat.le_trans F_xi hb11.size
  replace S_xm := S_xm.below hb11
  replace F_xm := Nat.le_trans F_xm hb11.size
  replace hB := hB.trans (hb11.mono hB.size)
  clear c0_xa c1_xa c2_xa d_xa c0_xb c1_xb c2_xb d_xb
  clear hb11 
  obtain ⟨c0_xc, c1_xc, c2_xc, -, d_xc, -⟩ := xc.cells
  obtain ⟨c0_xp, c1_xp, c2_xp, -, d_xp, -⟩ := xp.cells
  go_wp2_with fail
  (with_reducible refine (cs _ _ _ al2 _ _ _ d_xc d_xp).mono ?_)
  rintro e w12 ⟨rfl, hb12⟩
  replace x0 := x0.below hb12
  replace xo := xo.below hb12
  replace xa := xa.below hb12
  replace xb := xb.below hb12
  replace xc := xc.below hb12
  replace xp := xp.below hb12
  replace xi := xi.below hb12
  replace xk := xk.below hb12
  replace xm := xm.below hb12
  replace xx := xx.below hb12
  replace Ho := Ho.trans (hb12.mono Ho.size)
  replace S_xa := S_xa.below hb12
  replace F_xa := Nat.le_trans F_xa hb12.size
  replace S_xc := S_xc.below hb12
  replace F_xc := Nat.le_trans F_xc hb12.size
  replace S_xi := S_xi.below hb12
  replace F_xi := Nat.le_trans F_xi hb12.size
  replace S_xm := S_xm.below hb12
  replace F_xm := Nat.le_trans F_xm hb12.size
  replace hB := hB.trans (hb12.mono hB.size)
  clear c0_xc c1_xc c2_xc d_xc c0_xp c1_xp c2_xp d_xp
  clear hb12 
  obtain ⟨c0_xi, c1_xi, c2_xi, -, d_xi, -⟩ := xi.cells
  obtain ⟨c0_xk, c1_xk, c2_xk, -, d_xk, -⟩ := xk.cells
  go_wp2_with fail
  (with_reducible refine (cs _ _ _ al3 _ _ _ d_xi d_xk).mono ?_)
  rintro e w13 ⟨rfl, hb13⟩
  replace x0 := x0.below hb13
  replace xo := xo.below hb13
  replace xa := xa.below hb13
  replace xb := xb.below hb13
  replace xc := xc.below hb13
  replace xp := xp.below hb13
  replace xi := xi.below hb13
  replace xk := xk.below hb13
  replace xm := xm.below hb13
  replace xx := xx.below hb13
  replace Ho := Ho.trans (hb13.mono Ho.size)
  replace S_xa := S_xa.below hb13
  replace F_xa := Nat.le_trans F_xa hb13.size
  replace S_xc := S_xc.below hb13
  replace F_xc := Nat.le_trans F_xc hb13.size
  replace S_xi := S_xi.below hb13
  replace F_xi := Nat.le_trans F_xi hb13.size
  replace S_xm := S_xm.below hb13
  replace F_xm := Nat.le_trans F_xm hb13.size
  replace hB := hB.trans (hb13.mono hB.size)
  clear c0_xi c1_xi c2_xi d_xi c0_xk c1_xk c2_xk d_xk
  clear hb13 
  obtain ⟨c0_xm, c1_xm, c2_xm, -, d_xm, -⟩ := xm.cells
  obtain ⟨c0_xx, c1_xx, c2_xx, -, d_xx, -⟩ := xx.cells
  go_wp2_with fail
  (with_reducible refine (cs _ _ _ al4 _ _ _ d_xm d_xx).mono ?_)
  rintro e w14 ⟨rfl, hb14⟩
  replace x0 := x0.below hb14
  replace xo := xo.below hb14
  replace xa := xa.below hb14
  replace xb := xb.below hb14
  replace xc := xc.below hb14
  replace xp := xp.below hb14
  replace xi := xi.below hb14
  replace xk := xk.below hb14
  replace xm := xm.below hb14
  replace xx := xx.below hb14
  replace Ho := Ho.trans (hb14.mono Ho.size)
  replace S_xa := S_xa.below hb14
  replace F_xa := Nat.le_trans F_xa hb14.size
  replace S_xc := S_xc.below hb14
  replace F_xc := Nat.le_trans F_xc hb14.size
  replace S_xi := S_xi.below hb14
  replace F_xi := Nat.le_trans F_xi hb14.size
  replace S_xm := S_xm.below hb14
  replace F_xm := Nat.le_trans F_xm hb14.size
  replace hB := hB.trans (hb14.mono hB.size)
  clear c0_xm c1_xm c2_xm d_xm c0_xx c1_xx c2_xx d_xx
  clear hb14 
  clear xb xp xk xx xa xc xi xm
  clear cs al1 al2 al3 al4 xo x0 hB
  have c0_s := S_xa.box.c0
  have c1_s := S_xa.box.c1
  have c2_s := S_xa.box.c2
  go_wp2_with fail
  (with_reducible refine (spoil_walk _ _ _ _ S_xa.sp (Nat.le_trans S_xa.le (Nat.le_of_lt S_xa.lt))).mono ?_)
  rintro e w15 ⟨rfl, hb, hf⟩
  replace S_xc := S_xc.framed hf F_xa_xc.out
  replace S_xi := S_xi.framed hf F_xa_xi.out
  replace S_xm := S_xm.framed hf F_xa_xm.out
  replace Ho := Ho.trans (hb.mono O_xa.out)
  clear hb hf c0_s c1_s c2_s S_xa
  have c0_s := S_xc.box.c0
  have c1_s := S_xc.box.c1
  have c2_s := S_xc.box.c2
  go_wp2_with fail
  (with_reducible refine (spoil_walk _ _ _ _ S_xc.sp (Nat.le_trans S_xc.le (Nat.le_of_lt S_xc.lt))).mono ?_)
  rintro e w16 ⟨rfl, hb, hf⟩
  replace S_xi := S_xi.framed hf F_xc_xi.out
  replace S_xm := S_xm.framed hf F_xc_xm.out
  replace Ho := Ho.trans (hb.mono O_xc.out)
  clear hb hf c0_s c1_s c2_s S_xc
  have c0_s := S_xi.box.c0
  have c1_s := S_xi.box.c1
  have c2_s := S_xi.box.c2
  go_wp2_with fail
  (with_reducible refine (spoil_walk _ _ _ _ S_xi.sp (Nat.le_trans S_xi.le (Nat.le_of_lt S_xi.lt))).mono ?_)
  rintro e w17 ⟨rfl, hb, hf⟩
  replace S_xm := S_xm.framed hf F_xi_xm.out
  replace Ho := Ho.trans (hb.mono O_xi.out)
  clear hb hf c0_s c1_s c2_s S_xi
  have c0_s := S_xm.box.c0
  have c1_s := S_xm.box.c1
  have c2_s := S_xm.box.c2
  go_wp2_with fail
  (with_reducible refine (spoil_walk _ _ _ _ S_xm.sp (Nat.le_trans S_xm.le (Nat.le_of_lt S_xm.lt))).mono ?_)
  rintro e w18 ⟨rfl, hb, hf⟩
  replace Ho := Ho.trans (hb.mono O_xm.out)
  clear hb hf c0_s c1_s c2_s S_xm
  have x0 := x0_o.out.below Ho
  have xo := xo_o.out.below Ho
  have hB := hB_o.out.trans (Ho.mono hB_o.out.size)
  have c0_x0 := x0.c0
  have c1_x0 := x0.c1
  have c2_x0 := x0.c2
  obtain ⟨c0_xo, c1_xo, c2_xo, -, d_xo, -⟩ := xo.cells
  go_wp2_with fail
  (with_reducible refine (csd _ _ d_xo hB).mono ?_)
  rintro e w19 ⟨rfl, hb⟩
  replace hB := hB.trans (hb.mono hB.size)
  have t0 := tz _ hB
  clear tz csd Ho x0 xo hb c0_x0 c1_x0 c2_x0 c0_xo c1_xo c2_xo d_xo
  go_wp2
  go_ret
  exact ⟨rfl, hB⟩

namespace diskTurns
set_option linter.unusedVariables false
set_option maxRecDepth 100000 in
theorem lifted (os : Os) (started : os.Started) (H : Type) (enc : TypeId × Value → H) :
    ReturnsInHanded {} Try.checked os 5 .any (Rows.diskTurnsSpec.pre6 enc Try.prog Try.f5 Rows.diskTurnsRow.domain false) (Rows.diskTurnsSpec.post enc Try.prog Try.f5 false true false false) := by
  refine returnsInHanded_of_change (C := Try.checked) Try.own started (by kernel_rfl) Try.func5
    (ChangeSpec.witness6 (enc := enc) (C := Try.checked) false ⟨#[], #[.agg #[.slice none 0 0, .slice none 0 0, .bool false], .int .i64 0, .slice none 0 0], []⟩ 8 (by kernel_rfl) (by kernel_rfl) (by kernel_rfl) (by kernel_rfl)) ?_
  intro W base args ds gs before hval0 hW hcnd _
  have hval : ∀ (j : Nat) t v, Try.f5.params[j]? = some t → args[j]? = some v → Value.okWide Try.prog W .any base t v := hval0
  have hW' := hW
  obtain ⟨p, q, hA0, hV, rfl, hfz, hnd⟩ := hW
  have hA : DataW.TrodAll enc Try.prog W 0 (fun _ => true) true Try.f5.params.toList args.toList ds p := hA0
  rw [Try.params5] at hA hval
  obtain ⟨v0, vs0, d0, ds0, p0, q0, hargs, rfl, rfl, h0, r0⟩ := trodAll_cons hA
  obtain ⟨v1, vs1, d1, ds1, p1, q1, rfl, rfl, rfl, h1, r1⟩ := trodAll_cons r0
  obtain ⟨v2, vs2, d2, ds2, p2, q2, rfl, rfl, rfl, h2, r2⟩ := trodAll_cons r1
  obtain ⟨rfl, rfl, rfl⟩ := trodAll_nil r2
  obtain rfl : args = #[v0, v1, v2] := by cases args; simp_all
  obtain ⟨rfl, rfl⟩ := trodVars_none hV
  have k0 := h0
  have lt0 : ∀ x ∈ p0, x.block < W.heap.size := by obtain ⟨m, hm⟩ := k0; exact DataW.trod_lt m _ _ _ hm
  obtain ⟨z0, w0⟩ := dev_in (hval 0 25 v0 rfl rfl) h0
  obtain ⟨a1, rfl, rfl, rfl, w1⟩ := open_int Try.underlying3 (hval 1 3 v1 rfl rfl) h1
  obtain ⟨a2, len2, cap2, rfl⟩ := okWide_slice Try.underlying29 (hval 2 29 v2 rfl rfl)
  have k2 := h2
  have lt2 : ∀ x ∈ p2, x.block < W.heap.size := by obtain ⟨m, hm⟩ := k2; exact DataW.trod_lt m _ _ _ hm
  obtain ⟨z2, w2, c2⟩ : ∃ zs, Ints .u8 W a2 len2 zs ∧ len2 ≤ cap2 := by
    obtain ⟨fuel, hf⟩ := h2
    rcases open_ints Try.underlying29 Try.underlying5 (by kernel_rfl) hf with ⟨hcs, _⟩ | ⟨x, l, c, zs, hcs, _, hl, hm, hz, _, hcell, hwz⟩
    · simp [Value.cells] at hcs
      obtain ⟨rfl, rfl, rfl⟩ := hcs
      exact ⟨[], ⟨rfl, by omega, by simp, .inl rfl⟩, by omega⟩
    · simp [Value.cells] at hcs
      obtain ⟨rfl, rfl, rfl⟩ := hcs
      exact ⟨_, Ints.of_cells hl hm (by simpa using hz) hcell hwz, hl⟩
  clear hA0 hval0
  refine (diskTurns_walk W v0 z0 w0 a1 w1 a2 len2 cap2 z2 w2 c2).mono fun e W' ⟨he, bel⟩ => ?_
  subst he
  exact ⟨_, rfl, _, _, _, [], _, [], hW', trodAll_mk1 (shut_bool Try.underlying4 _), (trodAll_cons_mk (Below.trod Try.laidOut (by kernel_rfl) (of_decide_eq_true (by kernel_rfl)) k0 bel lt0) (trodAll_cons_mk (shut_int Try.underlying3 w1) (trodAll_cons_mk (Below.trod Try.laidOut (by kernel_rfl) (of_decide_eq_true (by kernel_rfl)) k2 bel lt2) trodAll_mk0))), rfl, bel.frame _, fun h => by cases h⟩

theorem holds : Rows.DiskTurnsSaid :=
  OpenClaim.holds_of_wide 5 Try.f5 rfl rfl rfl rfl rfl rfl rfl ⟨rfl, rfl, rfl, rfl, rfl⟩ rfl rfl rfl rfl rfl (by kernel_rfl) Try.func5 (by kernel_rfl)
    (of_decide_eq_true (by kernel_rfl)) (by unfold Func.isWrapper; first | (rw [if_pos (by decide +kernel)]; kernel_rfl) | (rw [if_neg (by decide +kernel)]; exact ⟨rfl, rfl⟩))
    (fun os started H enc _ => lifted os started H enc)
end diskTurns
end Go.Proofs.Ytldgpkaecfgagaa
