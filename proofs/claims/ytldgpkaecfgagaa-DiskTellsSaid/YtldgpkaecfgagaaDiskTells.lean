/- freeboardlaw04.DiskTells: for every input the law answers true, and what is handed in reads as it did. Conditions: none. -/
import Derived.Test.YtldgpkaecfgagaaDevOpen
import Derived.Test.YtldgpkaecfgagaaRefDD
import Derived.Test.YtldgpkaecfgagaaRefDF
import Derived.Test.YtldgpkaecfgagaaDiskW
namespace Go.Proofs.Ytldgpkaecfgagaa
open Go.ChangeShapes Go.WideShapes Go.ChangeAt Go.RowKit PolyM PackM FoldM DevM
/-- Two runs of bytes of the call's own, whatever they are; nothing older has turned. -/
def TwoB (K : Nat) (w0 wr : World) (A : Option Addr) (L C : Nat) (A' : Option Addr) (L' C' : Nat) : Prop :=
  (∃ zs, Ints .u8 wr A L zs) ∧ (∃ zs, Ints .u8 wr A' L' zs) ∧ High K wr [.slice A L C] ∧ High K wr [.slice A' L' C'] ∧ Below K w0 wr
theorem TwoB.init {K : Nat} {w0 W W' : World} {A A' : Option Addr} {L C L' C' : Nat} {zs zs' : List Int} (fa : Fresh K W (.slice A L C) zs) (fc : Fresh K W (.slice A' L' C') zs') (hb : Below W.heap.size W W') (hB : Below K w0 W') : TwoB K w0 W' A L C A' L' C' := by
  obtain ⟨A1, L1, C1, e1, h1, h2⟩ := fa.below hb
  obtain ⟨A2, L2, C2, e2, h3, h4⟩ := fc.below hb
  cases e1
  cases e2
  exact ⟨⟨_, h1⟩, ⟨_, h3⟩, h2, h4, hB⟩
theorem TwoB.store {K : Nat} {w0 wr : World} {A A' : Option Addr} {L C L' C' : Nat} (h : TwoB K w0 wr A L C A' L' C') {b o : Nat} {z : Int} (hb : K ≤ b) (h0 : 0 ≤ z) (h1 : z < 256) : TwoB K w0 (wr.setCell ⟨b, o, none⟩ (.int .u8 z)) A L C A' L' C' := by
  obtain ⟨⟨_, q1⟩, ⟨_, q2⟩, q3, q4, q5⟩ := h
  exact ⟨q1.stored (u8_wf h0 h1), q2.stored (u8_wf h0 h1), q3.setCell _ _, q4.setCell _ _, q5.setCell hb _⟩
theorem TwoB.at1 {K : Nat} {w0 wr : World} {A A' : Option Addr} {L C L' C' : Nat} (h : TwoB K w0 wr A L C A' L' C') {k : Nat} (hk : k < L) :
    ∃ (b off : Nat) (z : Int), A = some ⟨b, off, none⟩ ∧ wr.cell? ⟨b, off + k, none⟩ = some (.int .u8 z) ∧ wr.frozen? ⟨b, off + k, none⟩ = false ∧ (0 ≤ z ∧ z ≤ 255) ∧ K ≤ b := by
  obtain ⟨⟨_, q1⟩, _, q3, _, _⟩ := h
  obtain ⟨b, off, z, cs, e, c0, c1, hz, _, hK, _⟩ := byte_at q1 q3 (cap_one q1) (List.mem_singleton.2 rfl) hk
  exact ⟨b, off, z, e, c0, c1, hz, hK⟩
theorem TwoB.swap {K : Nat} {w0 wr : World} {A A' : Option Addr} {L C L' C' : Nat} (h : TwoB K w0 wr A L C A' L' C') : TwoB K w0 wr A' L' C' A L C := ⟨h.2.1, h.1, h.2.2.2.1, h.2.2.1, h.2.2.2.2⟩
theorem new_both (n : Int) : ∃ er dn, dn.dead = false ∧ SmallD dn ∧ (∀ W, Calls Try.prog 15 #[.int .i64 n] W (DevIs W er dn)) ∧ ∀ W, Calls Try.prog 27 #[.int .i64 n] W (DevIs W er dn) := by
  by_cases h1 : n < 1
  · exact ⟨2, ⟨[], [], false⟩, rfl, ⟨by simp, by simp⟩, fun W => new_no n W (.inl h1), fun W => refnew_no n W (.inl h1)⟩
  by_cases h2 : 256 < n
  · exact ⟨2, ⟨[], [], false⟩, rfl, ⟨by simp, by simp⟩, fun W => new_no n W (.inr ⟨by omega, h2⟩), fun W => refnew_no n W (.inr ⟨by omega, h2⟩)⟩
  · obtain ⟨q, rfl⟩ : ∃ q : Nat, n = q := ⟨n.toNat, by omega⟩
    exact ⟨0, ⟨List.replicate q [], [], false⟩, rfl, ⟨fun b hb => by rw [List.eq_of_mem_replicate hb]; simp, by simp⟩, fun W => new_yes q W (by omega) (by omega), fun W => refnew_yes q W (by omega) (by omega)⟩

set_option maxHeartbeats 16000000 in
set_option maxRecDepth 100000 in
theorem diskTells_walk (w : World) (v : Value) (d : Dev) (hv : DevV w v d) (v2 : Value) (o : Dev) (hv2 : DevV w v2 o) (k : Int) (_wk : (Lit.int .i64 k).wf = true) (nb : Int) (_wn : (Lit.int .i64 nb).wf = true) :
    Calls Try.prog 4 #[v, v2, .int .i64 k, .int .i64 nb] w fun e w' => e = .returned (.bool true) ∧ Below w.heap.size w w' := by
  have hv0 := hv
  have hv20 := hv2
  obtain ⟨A, n, C, hs, B, m, D, ht, rfl, _, _⟩ := hv
  obtain ⟨A2, n2, C2, hs2, B2, m2, D2, ht2, rfl, _, _⟩ := hv2
  have hB : Below w.heap.size w ((w.alloc (.cells #[.slice A n C, .slice B m D, .bool d.dead] 25)).alloc (.cells #[.slice A2 n2 C2, .slice B2 m2 D2, .bool o.dead] 25)) := ((Below.refl _ _).alloc (Nat.le_refl _) _).alloc (by simp) _
  have x0 := (BoxD.new w (.slice A n C) (.slice B m D) (.bool d.dead)).alloc (.cells #[.slice A2 n2 C2, .slice B2 m2 D2, .bool o.dead] 25)
  have x1 := BoxD.new (w.alloc (.cells #[.slice A n C, .slice B m D, .bool d.dead] 25)) (.slice A2 n2 C2) (.slice B2 m2 D2) (.bool o.dead)
  rw [World.size_alloc] at x1
  have hd := fun W (hW : Below w.heap.size w W) => hv0.below hW (Nat.le_refl _)
  have ho := fun W (hW : Below w.heap.size w W) => hv20.below hW (Nat.le_refl _)
  have cg := fun W (hW : Below w.heap.size w W) => great_calls _ d W (hd W hW)
  have co := fun W (hW : Below w.heap.size w W) => great_calls _ o W (ho W hW)
  clear hv0 hv20
  by_cases hG : GreatD d
  · rw [decide_eq_true hG] at cg
    clear hG co hd ho
    generalize d.dead = dd at *
    generalize o.dead = od at *
    go_enter Try.func4, Try.ntmps4
    have c0_x0 := x0.c0
    have c1_x0 := x0.c1
    have c2_x0 := x0.c2
    go_wp2_with fail
    (with_reducible refine (cg _ hB).mono ?_)
    rintro e w1 ⟨rfl, hb1⟩
    replace x0 := x0.below hb1
    replace x1 := x1.below hb1
    replace hB := hB.trans (hb1.mono hB.size)
    clear c0_x0 c1_x0 c2_x0
    clear hb1 cg
    go_wp2
    go_ret
    exact ⟨rfl, hB⟩
  rw [decide_eq_false hG] at cg
  by_cases hG2 : GreatD o
  · rw [decide_eq_true hG2] at co
    clear hG hG2 hd ho
    generalize d.dead = dd at *
    generalize o.dead = od at *
    go_enter Try.func4, Try.ntmps4
    have c0_x0 := x0.c0
    have c1_x0 := x0.c1
    have c2_x0 := x0.c2
    go_wp2_with fail
    (with_reducible refine (cg _ hB).mono ?_)
    rintro e w1 ⟨rfl, hb1⟩
    replace x0 := x0.below hb1
    replace x1 := x1.below hb1
    replace hB := hB.trans (hb1.mono hB.size)
    clear c0_x0 c1_x0 c2_x0
    clear hb1 cg
    have c0_x1 := x1.c0
    have c1_x1 := x1.c1
    have c2_x1 := x1.c2
    go_wp2_with fail
    (with_reducible refine (co _ hB).mono ?_)
    rintro e w2 ⟨rfl, hb2⟩
    replace x0 := x0.below hb2
    replace x1 := x1.below hb2
    replace hB := hB.trans (hb2.mono hB.size)
    clear c0_x1 c1_x1 c2_x1
    clear hb2 co
    go_wp2
    go_ret
    exact ⟨rfl, hB⟩
  rw [decide_eq_false hG2] at co
  obtain ⟨s1, s2, s3, s4⟩ := not_great hG
  have sd := small_of hG
  have so := small_of hG2
  have ct := fun W (hW : Below w.heap.size w W) => reftwin_calls _ d W (hd W hW) s1 s2 sd.1 sd.2
  have cT := fun W u (h : DevV W u d) => twin_calls u d W h s1 s2 s3 s4
  have cr := fun W u (h : DevV W u d) => read_calls u d k W h
  have cR := fun W (hW : Below w.heap.size w W) => refread_calls _ d k W (hd W hW)
  have cl := fun W u (h : DevV W u d) => lasting_calls u d k W h
  have cL := fun W (hW : Below w.heap.size w W) => reflasting_calls _ d k W (hd W hW)
  obtain ⟨en, dn, dn0, dn1, cn, cN⟩ := new_both nb
  have cs := fun W u v (h : DevV W u dn) (h' : DevV W v dn) => refsame_calls u v dn dn W h h' dn1 dn1
  rw [decide_eq_true (SameD.refl dn)] at cs
  have cc := fun W u (h : DevV W u d) => check_calls u d W h
  have cC := fun W (hW : Below w.heap.size w W) => refcheck_calls _ d W (hd W hW)
  have csd := fun W u (h : DevV W u d) (hW : Below w.heap.size w W) => refsame_calls u _ d d W h (hd W hW) sd sd
  have cq := fun W u (h : DevV W u d) (hW : Below w.heap.size w W) => same_calls u _ d d W h (hd W hW)
  rw [decide_eq_true (SameD.refl d)] at csd cq
  have cp := fun W (hW : Below w.heap.size w W) => same_calls _ _ d o W (hd W hW) (ho W hW)
  have cP := fun W (hW : Below w.heap.size w W) => refsame_calls _ _ d o W (hd W hW) (ho W hW) sd so
  generalize decide (SameD d o) = sb at *
  generalize chk d = ec at *
  generalize useE d k [] = er at *
  generalize resB er (seen d k) = r1 at *
  generalize resB er (lies d k) = r2 at *
  have csp := fun K W u (h : DevN K W u d) (hK : K ≤ W.heap.size) => spoil_calls u d K W h hK
  clear hd ho s1 s2 s3 s4 sd so hG hG2 dn1
  generalize hdd' : d.dead = dd at *
  generalize o.dead = od at *
  have hdd := Lib.hid hdd'
  have hdn := Lib.hid dn0
  clear hdd' dn0
  go_enter Try.func4, Try.ntmps4
  have c0_x0 := x0.c0
  have c1_x0 := x0.c1
  have c2_x0 := x0.c2
  go_wp2_with fail
  (with_reducible refine (cg _ hB).mono ?_)
  rintro e w1 ⟨rfl, hb1⟩
  replace x0 := x0.below hb1
  replace x1 := x1.below hb1
  replace hB := hB.trans (hb1.mono hB.size)
  clear c0_x0 c1_x0 c2_x0
  clear hb1 cg
  have c0_x1 := x1.c0
  have c1_x1 := x1.c1
  have c2_x1 := x1.c2
  go_wp2_with fail
  (with_reducible refine (co _ hB).mono ?_)
  rintro e w2 ⟨rfl, hb2⟩
  replace x0 := x0.below hb2
  replace x1 := x1.below hb2
  replace hB := hB.trans (hb2.mono hB.size)
  clear c0_x1 c1_x1 c2_x1
  clear hb2 co
  have c0_x0 := x0.c0
  have c1_x0 := x0.c1
  have c2_x0 := x0.c2
  go_wp2_with fail
  (with_reducible refine (ct _ hB).mono ?_)
  rintro e w3 ⟨v_xo, rfl, hN_xo, hb3⟩
  obtain ⟨A_xo, n_xo, C_xo, B_xo, m_xo, D_xo, rfl, hm_xo⟩ := hN_xo.form4 hdd.out
  replace hb3 := hb3.alloc hb3.size (.cells #[.slice A_xo n_xo C_xo, .slice B_xo m_xo D_xo, .bool dd] 25)
  have xo := InBox.new hN_xo (Eq.symm hdd.out)
  replace x0 := x0.below hb3
  replace x1 := x1.below hb3
  replace hB := hB.trans (hb3.mono hB.size)
  clear c0_x0 c1_x0 c2_x0
  clear hN_xo hm_xo hb3 ct
  have Ho := Below.refl (w3.alloc (.cells #[.slice A_xo n_xo C_xo, .slice B_xo m_xo D_xo, .bool dd] 25)).heap.size (w3.alloc (.cells #[.slice A_xo n_xo C_xo, .slice B_xo m_xo D_xo, .bool dd] 25))
  have xo_o := Lib.hid xo
  have x0_o := Lib.hid x0
  have hB_o := Lib.hid hB
  obtain ⟨c0_xo, c1_xo, c2_xo, -, d_xo, -⟩ := xo.cells
  go_wp2_with fail
  (with_reducible refine (cr _ _ d_xo).mono ?_)
  rintro e w4 ⟨A_ra, L_ra, C_ra, rfl, ra, hb4⟩
  replace ra := ra.mono Ho.size
  replace x0 := x0.below hb4
  replace x1 := x1.below hb4
  replace xo := xo.below hb4
  replace Ho := Ho.trans (hb4.mono Ho.size)
  replace hB := hB.trans (hb4.mono hB.size)
  clear c0_xo c1_xo c2_xo d_xo
  replace ra := Lib.hid ra
  clear hb4 cr
  have c0_x0 := x0.c0
  have c1_x0 := x0.c1
  have c2_x0 := x0.c2
  go_wp2_with fail
  (with_reducible refine (cR _ hB).mono ?_)
  rintro e w5 ⟨A_rb, L_rb, C_rb, rfl, rb, hb5⟩
  replace x0 := x0.below hb5
  replace x1 := x1.below hb5
  replace xo := xo.below hb5
  replace ra := Lib.hid (ra.out.below hb5)
  replace Ho := Ho.trans (hb5.mono Ho.size)
  replace hB := hB.trans (hb5.mono hB.size)
  clear c0_x0 c1_x0 c2_x0
  replace rb := Lib.hid rb
  clear hb5 cR
  obtain ⟨c0_xo, c1_xo, c2_xo, -, d_xo, -⟩ := xo.cells
  go_wp2_with fail
  (with_reducible refine (cl _ _ d_xo).mono ?_)
  rintro e w6 ⟨A_rc, L_rc, C_rc, rfl, rc, hb6⟩
  replace rc := rc.mono Ho.size
  replace x0 := x0.below hb6
  replace x1 := x1.below hb6
  replace xo := xo.below hb6
  replace ra := Lib.hid (ra.out.below hb6)
  replace rb := Lib.hid (rb.out.below hb6)
  replace Ho := Ho.trans (hb6.mono Ho.size)
  replace hB := hB.trans (hb6.mono hB.size)
  clear c0_xo c1_xo c2_xo d_xo
  replace rc := Lib.hid rc
  clear hb6 cl
  have c0_x0 := x0.c0
  have c1_x0 := x0.c1
  have c2_x0 := x0.c2
  go_wp2_with fail
  (with_reducible refine (cL _ hB).mono ?_)
  rintro e w7 ⟨A_rp, L_rp, C_rp, rfl, rp, hb7⟩
  replace x0 := x0.below hb7
  replace x1 := x1.below hb7
  replace xo := xo.below hb7
  replace ra := Lib.hid (ra.out.below hb7)
  replace rb := Lib.hid (rb.out.below hb7)
  replace rc := Lib.hid (rc.out.below hb7)
  replace Ho := Ho.trans (hb7.mono Ho.size)
  replace hB := hB.trans (hb7.mono hB.size)
  clear c0_x0 c1_x0 c2_x0
  replace rp := Lib.hid rp
  clear hb7 cL
  go_wp2_with fail
  (with_reducible refine (cn _).mono ?_)
  rintro e w8 ⟨v_xn, rfl, hN_xn, hb8⟩
  obtain ⟨A_xn, n_xn, C_xn, B_xn, m_xn, D_xn, rfl, hm_xn⟩ := hN_xn.form2 hdn.out
  replace hb8 := hb8.alloc hb8.size (.cells #[.slice A_xn n_xn C_xn, .slice B_xn m_xn D_xn, .bool false] 25)
  have xn := InBox.new hN_xn (Eq.symm hdn.out)
  replace x0 := x0.below hb8
  replace x1 := x1.below hb8
  replace xo := xo.below hb8
  replace ra := Lib.hid (ra.out.below hb8)
  replace rb := Lib.hid (rb.out.below hb8)
  replace rc := Lib.hid (rc.out.below hb8)
  replace rp := Lib.hid (rp.out.below hb8)
  replace Ho := Ho.trans (hb8.mono Ho.size)
  replace hB := hB.trans (hb8.mono hB.size)
  clear hN_xn hm_xn hb8 cn
  go_wp2_with fail
  (with_reducible refine (cN _).mono ?_)
  rintro e w9 ⟨v_xm, rfl, hN_xm, hb9⟩
  obtain ⟨A_xm, n_xm, C_xm, B_xm, m_xm, D_xm, rfl, hm_xm⟩ := hN_xm.form2 hdn.out
  replace hb9 := hb9.alloc hb9.size (.cells #[.slice A_xm n_xm C_xm, .slice B_xm m_xm D_xm, .bool false] 25)
  have xm := InBox.new hN_xm (Eq.symm hdn.out)
  replace x0 := x0.below hb9
  replace x1 := x1.below hb9
  replace xo := xo.below hb9
  replace xn := xn.below hb9
  replace ra := Lib.hid (ra.out.below hb9)
  replace rb := Lib.hid (rb.out.below hb9)
  replace rc := Lib.hid (rc.out.below hb9)
  replace rp := Lib.hid (rp.out.below hb9)
  replace Ho := Ho.trans (hb9.mono Ho.size)
  replace hB := hB.trans (hb9.mono hB.size)
  clear hN_xm hm_xm hb9 cN
  have Ht := Below.refl (w9.alloc (.cells #[.slice A_xm n_xm C_xm, .slice B_xm m_xm D_xm, .bool false] 25)).heap.size (w9.alloc (.cells #[.slice A_xm n_xm C_xm, .slice B_xm m_xm D_xm, .bool false] 25))
  have ra_t := ra
  have rc_t := rc
  have Ho_t := Lib.hid Ho
  obtain ⟨c0_xo, c1_xo, c2_xo, -, d_xo, -⟩ := xo.cells
  go_wp2_with fail
  (with_reducible refine (cT _ _ d_xo).mono ?_)
  rintro e w10 ⟨v_xt, rfl, hN_xt, hb10⟩
  obtain ⟨A_xt, n_xt, C_xt, B_xt, m_xt, D_xt, rfl, hm_xt⟩ := hN_xt.form4 hdd.out
  have hNt := Lib.hid (hN_xt.below ((Below.refl _ _).alloc (Nat.le_refl _) (.cells #[.slice A_xt n_xt C_xt, .slice B_xt m_xt D_xt, .bool dd] 25)))
  replace hb10 := hb10.alloc hb10.size (.cells #[.slice A_xt n_xt C_xt, .slice B_xt m_xt D_xt, .bool dd] 25)
  have xt := InBox.new hN_xt (Eq.symm hdd.out)
  replace x0 := x0.below hb10
  replace x1 := x1.below hb10
  replace xo := xo.below hb10
  replace xn := xn.below hb10
  replace xm := xm.below hb10
  replace ra := Lib.hid (ra.out.below hb10)
  replace rb := Lib.hid (rb.out.below hb10)
  replace rc := Lib.hid (rc.out.below hb10)
  replace rp := Lib.hid (rp.out.below hb10)
  replace Ho := Ho.trans (hb10.mono Ho.size)
  replace Ht := Ht.trans (hb10.mono Ht.size)
  replace hB := hB.trans (hb10.mono hB.size)
  clear c0_xo c1_xo c2_xo d_xo
  clear hN_xt hm_xt hb10 cT
  obtain ⟨c0_xn, c1_xn, c2_xn, -, d_xn, -⟩ := xn.cells
  obtain ⟨c0_xm, c1_xm, c2_xm, -, d_xm, -⟩ := xm.cells
  have t_ra := ra.out.text (Below.refl _ _)
  have t_rb := rb.out.text (Below.refl _ _)
  have t_rc := rc.out.text (Below.refl _ _)
  have t_rp := rp.out.text (Below.refl _ _)
  go_wp2_with fail
  (with_reducible refine (cs _ _ _ d_xn d_xm).mono ?_)
  rintro e w11 ⟨rfl, hb11⟩
  replace x0 := x0.below hb11
  replace x1 := x1.below hb11
  replace xo := xo.below hb11
  replace xn := xn.below hb11
  replace xm := xm.below hb11
  replace xt := xt.below hb11
  replace ra := Lib.hid (ra.out.below hb11)
  replace rb := Lib.hid (rb.out.below hb11)
  replace rc := Lib.hid (rc.out.below hb11)
  replace rp := Lib.hid (rp.out.below hb11)
  replace Ho := Ho.trans (hb11.mono Ho.size)
  replace Ht := Ht.trans (hb11.mono Ht.size)
  replace hNt := Lib.hid (hNt.out.below hb11)
  replace hB := hB.trans (hb11.mono hB.size)
  clear c0_xn c1_xn c2_xn d_xn c0_xm c1_xm c2_xm d_xm t_ra t_rb t_rc t_rp
  clear hb11 cs
  clear xn xm ra rb rc rp
  go_upto_region 12 with fail
  have HS : Hid (∀ W, Below w11.heap.size w11 W → (Below w11.heap.size w11 W ∧ W.cell? ⟨w.heap.size, 0, none⟩ = some (.slice A n C) ∧ W.cell? ⟨w.heap.size, 1, none⟩ = some (.slice B m D) ∧ W.cell? ⟨w.heap.size, 2, none⟩ = some (.bool dd) ∧ W.cell? ⟨w.heap.size + 1, 0, none⟩ = some (.slice A2 n2 C2) ∧ W.cell? ⟨w.heap.size + 1, 1, none⟩ = some (.slice B2 m2 D2) ∧ W.cell? ⟨w.heap.size + 1, 2, none⟩ = some (.bool od) ∧ W.cell? ⟨w3.heap.size, 0, none⟩ = some (.slice A_xo n_xo C_xo) ∧ W.cell? ⟨w3.heap.size, 1, none⟩ = some (.slice B_xo m_xo D_xo) ∧ W.cell? ⟨w3.heap.size, 2, none⟩ = some (.bool dd) ∧ W.cell? ⟨w10.heap.size, 0, none⟩ = some (.slice A_xt n_xt C_xt) ∧ W.cell? ⟨w10.heap.size, 1, none⟩ = some (.slice B_xt m_xt D_xt) ∧ W.cell? ⟨w10.heap.size, 2, none⟩ = some (.bool dd))) := Lib.hid fun W hW => ⟨hW, (x0.below hW).c0, (x0.below hW).c1, (x0.below hW).c2, (x1.below hW).c0, (x1.below hW).c1, (x1.below hW).c2, (xo.below hW).cells.1, (xo.below hW).cells.2.1, (xo.below hW).cells.2.2.1, (xt.below hW).cells.1, (xt.below hW).cells.2.1, (xt.below hW).cells.2.2.1⟩
  have Hd := Lib.hid (fun W (hW : Below w11.heap.size w11 W) => (xo.below hW).cells.2.2.2.2.1)
  have Hd2 := Lib.hid (fun W (hW : Below w11.heap.size w11 W) => (xt.below hW).cells.2.2.2.2.1)
  go_cut [24] (fun s24 wx => s24 = .bool true ∧ Below w11.heap.size w11 wx)
  case first =>
    refine wp_region_held_drew (S := (fun W => Below w11.heap.size w11 W ∧ W.cell? ⟨w.heap.size, 0, none⟩ = some (.slice A n C) ∧ W.cell? ⟨w.heap.size, 1, none⟩ = some (.slice B m D) ∧ W.cell? ⟨w.heap.size, 2, none⟩ = some (.bool dd) ∧ W.cell? ⟨w.heap.size + 1, 0, none⟩ = some (.slice A2 n2 C2) ∧ W.cell? ⟨w.heap.size + 1, 1, none⟩ = some (.slice B2 m2 D2) ∧ W.cell? ⟨w.heap.size + 1, 2, none⟩ = some (.bool od) ∧ W.cell? ⟨w3.heap.size, 0, none⟩ = some (.slice A_xo n_xo C_xo) ∧ W.cell? ⟨w3.heap.size, 1, none⟩ = some (.slice B_xo m_xo D_xo) ∧ W.cell? ⟨w3.heap.size, 2, none⟩ = some (.bool dd) ∧ W.cell? ⟨w10.heap.size, 0, none⟩ = some (.slice A_xt n_xt C_xt) ∧ W.cell? ⟨w10.heap.size, 1, none⟩ = some (.slice B_xt m_xt D_xt) ∧ W.cell? ⟨w10.heap.size, 2, none⟩ = some (.bool dd))) (by kernel_rfl) ?_ (fun hHeld => ?_)
    · first | exact hHeld | exact HS.out _ hB9 | exact HS.out _ (Below.refl _ _).drew
    refine wpAnyH_take (i := 0) (v := ?_) rfl (by kernel_rfl) (by kernel_rfl) (by kernel_rfl) (fun _ _ _ h => h) (Or.inl ⟨by rfl, ?_⟩) hHeld ?_
    rotate_left
    · (intro w hSw; (try dsimp only at hSw); go_simp; try with_reducible rfl)
    try simp only [Act.put, List.getElem_toArray, List.getElem_cons_zero, List.setIfInBounds_toArray, List.set_cons_zero, List.set_cons_succ]
    refine wpAnyH_take (i := 2) (v := ?_) rfl (by kernel_rfl) (by kernel_rfl) (by kernel_rfl) (fun _ _ _ h => h) (Or.inl ⟨by rfl, ?_⟩) hHeld ?_
    rotate_left
    · (intro w hSw; (try dsimp only at hSw); go_simp; try with_reducible rfl)
    try simp only [Act.put, List.getElem_toArray, List.getElem_cons_zero, List.getElem_cons_succ, List.setIfInBounds_toArray, List.set_cons_zero, List.set_cons_succ]
    refine wpAnyH_ready (rs := [1]) (by kernel_rfl) (by simp) ?_
    refine AllReadyH.cons rfl (fun K hK => ?_) AllReadyH.nil
    go_simp
    (with_reducible refine (cc _ _ (Hd.out _ hHeld.1)).mono ?_)
    rintro e w90 ⟨rfl, hb9⟩
    have hB9 := hHeld.1.trans (hb9.mono hHeld.1.size)
    go_wp2_with fail
    refine hK.out _ _ ?_ (fun hHeld2 => ?_)
    · first | exact hHeld | exact HS.out _ hB9 | exact HS.out _ (Below.refl _ _).drew
    clear hK K hHeld
    have hHeld := hHeld2
    clear hHeld2
    try simp only [Act.put, List.setIfInBounds_toArray, List.set_cons_zero, List.set_cons_succ]
    refine wpAnyH_ready (rs := [3]) (by kernel_rfl) (by simp) ?_
    refine AllReadyH.cons rfl (fun K hK => ?_) AllReadyH.nil
    go_simp
    (with_reducible refine (cC _ (hB.trans (hHeld.1.mono hB.size))).mono ?_)
    rintro e w90 ⟨rfl, hb9⟩
    have hB9 := hHeld.1.trans (hb9.mono hHeld.1.size)
    go_wp2_with fail
    refine hK.out _ _ ?_ (fun hHeld2 => ?_)
    · first | exact hHeld | exact HS.out _ hB9 | exact HS.out _ (Below.refl _ _).drew
    clear hK K hHeld
    have hHeld := hHeld2
    clear hHeld2
    try simp only [Act.put, List.setIfInBounds_toArray, List.set_cons_zero, List.set_cons_succ]
    refine wpAnyH_take (i := 4) (v := ?_) rfl (by kernel_rfl) (by kernel_rfl) (by kernel_rfl) (fun _ _ _ h => h) (Or.inl ⟨by rfl, ?_⟩) hHeld ?_
    rotate_left
    · (intro w hSw; (try dsimp only at hSw); go_simp; try with_reducible rfl)
    try simp only [Act.put, List.getElem_toArray, List.getElem_cons_zero, List.getElem_cons_succ, List.setIfInBounds_toArray, List.set_cons_zero, List.set_cons_succ]
    refine wpAnyH_take (i := 5) (v := ?_) rfl (by kernel_rfl) (by kernel_rfl) (by kernel_rfl) (fun _ _ _ h => h) (Or.inl ⟨by rfl, ?_⟩) hHeld ?_
    rotate_left
    · (intro w hSw; (try dsimp only at hSw); go_simp; try with_reducible rfl)
    try simp only [Act.put, List.getElem_toArray, List.getElem_cons_zero, List.getElem_cons_succ, List.setIfInBounds_toArray, List.set_cons_zero, List.set_cons_succ]
    refine wpAnyH_take (i := 6) (v := ?_) rfl (by kernel_rfl) (by kernel_rfl) (by kernel_rfl) (fun _ _ _ h => h) (Or.inl ⟨by rfl, ?_⟩) hHeld ?_
    rotate_left
    · (intro w hSw; (try dsimp only at hSw); go_simp; try with_reducible rfl)
    try simp only [Act.put, List.getElem_toArray, List.getElem_cons_zero, List.getElem_cons_succ, List.setIfInBounds_toArray, List.set_cons_zero, List.set_cons_succ]
    refine wpAnyH_take (i := 7) (v := ?_) rfl (by kernel_rfl) (by kernel_rfl) (by kernel_rfl) (fun _ _ _ h => h) (Or.inl ⟨by rfl, ?_⟩) hHeld ?_
    rotate_left
    · (intro w hSw; (try dsimp only at hSw); go_simp; try with_reducible rfl)
    try simp only [Act.put, List.getElem_toArray, List.getElem_cons_zero, List.getElem_cons_succ, List.setIfInBounds_toArray, List.set_cons_zero, List.set_cons_succ]
    refine wpAnyH_ready (rs := [8]) (by kernel_rfl) (by simp) ?_
    refine AllReadyH.cons rfl (fun K hK => ?_) AllReadyH.nil
    go_simp
    (with_reducible refine (csd _ _ (Hd2.out _ hHeld.1) (hB.trans (hHeld.1.mono hB.size))).mono ?_)
    rintro e w90 ⟨rfl, hb9⟩
    have hB9 := hHeld.1.trans (hb9.mono hHeld.1.size)
    go_wp2_with fail
    refine hK.out _ _ ?_ (fun hHeld2 => ?_)
    · first | exact hHeld | exact HS.out _ hB9 | exact HS.out _ (Below.refl _ _).drew
    clear hK K hHeld
    have hHeld := hHeld2
    clear hHeld2
    try simp only [Act.put, List.setIfInBounds_toArray, List.set_cons_zero, List.set_cons_succ]
    refine wpAnyH_take (i := 9) (v := ?_) rfl (by kernel_rfl) (by kernel_rfl) (by kernel_rfl) (fun _ _ _ h => h) (Or.inl ⟨by rfl, ?_⟩) hHeld ?_
    rotate_left
    · (intro w hSw; (try dsimp only at hSw); go_simp; try with_reducible rfl)
    try simp only [Act.put, List.getElem_toArray, List.getElem_cons_zero, List.getElem_cons_succ, List.setIfInBounds_toArray, List.set_cons_zero, List.set_cons_succ]
    refine wpAnyH_take (i := 10) (v := ?_) rfl (by kernel_rfl) (by kernel_rfl) (by kernel_rfl) (fun _ _ _ h => h) (Or.inl ⟨by rfl, ?_⟩) hHeld ?_
    rotate_left
    · (intro w hSw; (try dsimp only at hSw); go_simp; try with_reducible rfl)
    try simp only [Act.put, List.getElem_toArray, List.getElem_cons_zero, List.getElem_cons_succ, List.setIfInBounds_toArray, List.set_cons_zero, List.set_cons_succ]
    refine wpAnyH_take (i := 11) (v := ?_) rfl (by kernel_rfl) (by kernel_rfl) (by kernel_rfl) (fun _ _ _ h => h) (Or.inl ⟨by rfl, ?_⟩) hHeld ?_
    rotate_left
    · (intro w hSw; (try dsimp only at hSw); go_simp; try with_reducible rfl)
    try simp only [Act.put, List.getElem_toArray, List.getElem_cons_zero, List.getElem_cons_succ, List.setIfInBounds_toArray, List.set_cons_zero, List.set_cons_succ]
    refine wpAnyH_take (i := 12) (v := ?_) rfl (by kernel_rfl) (by kernel_rfl) (by kernel_rfl) (fun _ _ _ h => h) (Or.inl ⟨by rfl, ?_⟩) hHeld ?_
    rotate_left
    · (intro w hSw; (try dsimp only at hSw); go_simp; try with_reducible rfl)
    try simp only [Act.put, List.getElem_toArray, List.getElem_cons_zero, List.getElem_cons_succ, List.setIfInBounds_toArray, List.set_cons_zero, List.set_cons_succ]
    refine wpAnyH_take (i := 14) (v := ?_) rfl (by kernel_rfl) (by kernel_rfl) (by kernel_rfl) (fun _ _ _ h => h) (Or.inl ⟨by rfl, ?_⟩) hHeld ?_
    rotate_left
    · (intro w hSw; (try dsimp only at hSw); go_simp; try with_reducible rfl)
    try simp only [Act.put, List.getElem_toArray, List.getElem_cons_zero, List.getElem_cons_succ, List.setIfInBounds_toArray, List.set_cons_zero, List.set_cons_succ]
    refine wpAnyH_take (i := 15) (v := ?_) rfl (by kernel_rfl) (by kernel_rfl) (by kernel_rfl) (fun _ _ _ h => h) (Or.inl ⟨by rfl, ?_⟩) hHeld ?_
    rotate_left
    · (intro w hSw; (try dsimp only at hSw); go_simp; try with_reducible rfl)
    try simp only [Act.put, List.getElem_toArray, List.getElem_cons_zero, List.getElem_cons_succ, List.setIfInBounds_toArray, List.set_cons_zero, List.set_cons_succ]
    refine wpAnyH_ready (rs := [13]) (by kernel_rfl) (by simp) ?_
    refine AllReadyH.cons rfl (fun K hK => ?_) AllReadyH.nil
    go_simp
    (with_reducible refine (cp _ (hB.trans (hHeld.1.mono hB.size))).mono ?_)
    rintro e w90 ⟨rfl, hb9⟩
    have hB9 := hHeld.1.trans (hb9.mono hHeld.1.size)
    go_wp2_with fail
    refine hK.out _ _ ?_ (fun hHeld2 => ?_)
    · first | exact hHeld | exact HS.out _ hB9 | exact HS.out _ (Below.refl _ _).drew
    clear hK K hHeld
    have hHeld := hHeld2
    clear hHeld2
    try simp only [Act.put, List.setIfInBounds_toArray, List.set_cons_zero, List.set_cons_succ]
    refine wpAnyH_ready (rs := [16]) (by kernel_rfl) (by simp) ?_
    refine AllReadyH.cons rfl (fun K hK => ?_) AllReadyH.nil
    go_simp
    (with_reducible refine (cP _ (hB.trans (hHeld.1.mono hB.size))).mono ?_)
    rintro e w90 ⟨rfl, hb9⟩
    have hB9 := hHeld.1.trans (hb9.mono hHeld.1.size)
    go_wp2_with fail
    refine hK.out _ _ ?_ (fun hHeld2 => ?_)
    · first | exact hHeld | exact HS.out _ hB9 | exact HS.out _ (Below.refl _ _).drew
    clear hK K hHeld
    have hHeld := hHeld2
    clear hHeld2
    try simp only [Act.put, List.setIfInBounds_toArray, List.set_cons_zero, List.set_cons_succ]
    refine wpAnyH_take (i := 17) (v := ?_) rfl (by kernel_rfl) (by kernel_rfl) (by kernel_rfl) (fun _ _ _ h => h) (Or.inl ⟨by rfl, ?_⟩) hHeld ?_
    rotate_left
    · (intro w hSw; (try dsimp only at hSw); go_simp; try with_reducible rfl)
    try simp only [Act.put, List.getElem_toArray, List.getElem_cons_zero, List.getElem_cons_succ, List.setIfInBounds_toArray, List.set_cons_zero, List.set_cons_succ]
    refine wpAnyH_take (i := 18) (v := ?_) rfl (by kernel_rfl) (by kernel_rfl) (by kernel_rfl) (fun _ _ _ h => h) (Or.inl ⟨by rfl, ?_⟩) hHeld ?_
    rotate_left
    · (intro w hSw; (try dsimp only at hSw); go_simp; try with_reducible rfl)
    try simp only [Act.put, List.getElem_toArray, List.getElem_cons_zero, List.getElem_cons_succ, List.setIfInBounds_toArray, List.set_cons_zero, List.set_cons_succ]
    refine wpAnyH_take (i := 19) (v := ?_) rfl (by kernel_rfl) (by kernel_rfl) (by kernel_rfl) (fun _ _ _ h => h) (Or.inl ⟨by rfl, ?_⟩) hHeld ?_
    rotate_left
    · (intro w hSw; (try dsimp only at hSw); go_simp; try with_reducible rfl)
    try simp only [Act.put, List.getElem_toArray, List.getElem_cons_zero, List.getElem_cons_succ, List.setIfInBounds_toArray, List.set_cons_zero, List.set_cons_succ]
    refine wpAnyH_take (i := 20) (v := ?_) rfl (by kernel_rfl) (by kernel_rfl) (by kernel_rfl) (fun _ _ _ h => h) (Or.inl ⟨by rfl, ?_⟩) hHeld ?_
    rotate_left
    · (intro w hSw; (try dsimp only at hSw); go_simp; try with_reducible rfl)
    try simp only [Act.put, List.getElem_toArray, List.getElem_cons_zero, List.getElem_cons_succ, List.setIfInBounds_toArray, List.set_cons_zero, List.set_cons_succ]
    refine wpAnyH_take (i := 21) (v := ?_) rfl (by kernel_rfl) (by kernel_rfl) (by kernel_rfl) (fun _ _ _ h => h) (Or.inl ⟨by rfl, ?_⟩) hHeld ?_
    rotate_left
    · (intro w hSw; (try dsimp only at hSw); go_simp; try with_reducible rfl)
    try simp only [Act.put, List.getElem_toArray, List.getElem_cons_zero, List.getElem_cons_succ, List.setIfInBounds_toArray, List.set_cons_zero, List.set_cons_succ]
    refine wpAnyH_ready (rs := [22]) (by kernel_rfl) (by simp) ?_
    refine AllReadyH.cons rfl (fun K hK => ?_) AllReadyH.nil
    go_simp
    (with_reducible refine (cq _ _ (Hd.out _ hHeld.1) (hB.trans (hHeld.1.mono hB.size))).mono ?_)
    rintro e w90 ⟨rfl, hb9⟩
    have hB9 := hHeld.1.trans (hb9.mono hHeld.1.size)
    go_wp2_with fail
    refine hK.out _ _ ?_ (fun hHeld2 => ?_)
    · first | exact hHeld | exact HS.out _ hB9 | exact HS.out _ (Below.refl _ _).drew
    clear hK K hHeld
    have hHeld := hHeld2
    clear hHeld2
    try simp only [Act.put, List.setIfInBounds_toArray, List.set_cons_zero, List.set_cons_succ]
    refine wpAnyH_take (i := 23) (v := ?_) rfl (by kernel_rfl) (by kernel_rfl) (by kernel_rfl) (fun _ _ _ h => h) (Or.inl ⟨by rfl, ?_⟩) hHeld ?_
    rotate_left
    · (intro w hSw; (try dsimp only at hSw); go_simp; try with_reducible rfl)
    try simp only [Act.put, List.getElem_toArray, List.getElem_cons_zero, List.getElem_cons_succ, List.setIfInBounds_toArray, List.set_cons_zero, List.set_cons_succ]
    refine wpAnyH_take (i := 24) (v := ?_) rfl (by kernel_rfl) (by kernel_rfl) (by kernel_rfl) (fun _ _ _ h => h) (Or.inl ⟨by rfl, ?_⟩) hHeld ?_
    rotate_left
    · (intro w hSw; (try dsimp only at hSw); go_simp; try with_reducible rfl)
    try simp only [Act.put, List.getElem_toArray, List.getElem_cons_zero, List.getElem_cons_succ, List.setIfInBounds_toArray, List.set_cons_zero, List.set_cons_succ]
    refine wpAnyH_done (by kernel_rfl) ?_ _
    have hBe := hHeld.1
    clear hHeld HS Hd Hd2
    go_wp2_with fail
    go_meet
    case rel => exact ⟨rfl, hBe⟩
  case rest =>
    obtain ⟨rfl, hz⟩ := hcut
    clear HS Hd Hd2 cc cC cp cP cq
    replace x0 := x0.below hz
    replace x1 := x1.below hz
    replace xo := xo.below hz
    replace xt := xt.below hz
    replace Ho := Ho.trans (hz.mono Ho.size)
    replace Ht := Ht.trans (hz.mono Ht.size)
    replace hNt := Lib.hid (hNt.out.below hz)
    replace hB := hB.trans (hz.mono hB.size)
    clear x1
    obtain ⟨c0_xt, c1_xt, c2_xt, -, d_xt, -⟩ := xt.cells
    go_wp2_with fail
    (with_reducible refine (csp _ _ _ hNt.out Ht.size).mono ?_)
    rintro e w13 ⟨rfl, hS⟩
    have Hf := Ho.trans (hS.mono Ho_t.out.size)
    have hTwo := Lib.hid (TwoB.init ra_t.out rc_t.out (Ht.trans hS) Hf)
    clear c0_xt c1_xt c2_xt d_xt csp hNt Ht hS Hf Ho Ho_t ra_t rc_t x0 xo xt hB hz
    go_wp2
    go_loopw [25] (fun i wr => ∃ j : Nat, j ≤ L_ra ∧ i = .int .i64 j ∧ TwoB (w3.alloc (.cells #[.slice A_xo n_xo C_xo, .slice B_xo m_xo D_xo, .bool dd] 25)).heap.size (w3.alloc (.cells #[.slice A_xo n_xo C_xo, .slice B_xo m_xo D_xo, .bool dd] 25)) wr A_ra L_ra C_ra A_rc L_rc C_rc) (fun i _ => L_ra - (intOf i).toNat)
    case atStart => exact ⟨0, by omega, rfl, hTwo.out⟩
    case round =>
      obtain ⟨j, hj, rfl, hT⟩ := hrel
      clear hTwo
      have hLm : L_ra ≤ 9223372036854775807 := by obtain ⟨⟨_, q⟩, _⟩ := id hT; exact q.max
      by_cases hjL : j < L_ra
      · obtain ⟨b, off, z, rfl, c0, c1, ⟨hz0, hz1⟩, hKb⟩ := hT.at1 hjL
        have hH := Lib.hid hT
        have hjL1 : (j : Int) < (L_ra : Int) := by omega
        clear hT
        go_wp2
        go_roundw
        case rel => exact ⟨j + 1, by omega, by go_num, hH.out.store hKb (by omega) (by omega)⟩
        case measure => simp [intOf]; omega
      · obtain rfl : L_ra = j := by omega
        have hH := Lib.hid hT
        clear hT
        obtain ⟨wo, rfl⟩ : ∃ x : World, x = wr := ⟨_, rfl⟩
        go_wp2
        go_loopw [26] (fun i wr => ∃ j : Nat, j ≤ L_rc ∧ i = .int .i64 j ∧ TwoB (w3.alloc (.cells #[.slice A_xo n_xo C_xo, .slice B_xo m_xo D_xo, .bool dd] 25)).heap.size (w3.alloc (.cells #[.slice A_xo n_xo C_xo, .slice B_xo m_xo D_xo, .bool dd] 25)) wr A_ra L_ra C_ra A_rc L_rc C_rc) (fun i _ => L_rc - (intOf i).toNat)
        case atStart => exact ⟨0, by omega, rfl, hH.out⟩
        case round =>
          obtain ⟨j, hj, rfl, hT⟩ := hrel
          clear hH
          have hLm : L_rc ≤ 9223372036854775807 := by obtain ⟨_, ⟨_, q⟩, _⟩ := id hT; exact q.max
          by_cases hjL : j < L_rc
          · obtain ⟨b, off, z, rfl, c0, c1, ⟨hz0, hz1⟩, hKb⟩ := hT.swap.at1 hjL
            have hH := Lib.hid hT
            have hjL1 : (j : Int) < (L_rc : Int) := by omega
            clear hT
            go_wp2
            go_roundw
            case rel => exact ⟨j + 1, by omega, by go_num, hH.out.store hKb (by omega) (by omega)⟩
            case measure => simp [intOf]; omega
          · obtain rfl : L_rc = j := by omega
            have Hf := hT.2.2.2.2
            have x0 := x0_o.out.below Hf
            obtain ⟨q0, q1, q2, -, qd, -⟩ := (xo_o.out.below Hf).cells
            have hB := hB_o.out.trans (Hf.mono hB_o.out.size)
            have p0 := x0.c0
            have p1 := x0.c1
            have p2 := x0.c2
            clear hT Hf x0 x0_o xo_o hB_o
            go_wp2_with fail
            (with_reducible refine (csd _ _ qd hB).mono ?_)
            rintro e we ⟨rfl, hbe⟩
            have hBe := hB.trans (hbe.mono hB.size)
            clear csd
            go_wp2
            go_ret
            exact ⟨rfl, hBe⟩

namespace diskTells
set_option linter.unusedVariables false
set_option maxRecDepth 100000 in
theorem lifted (os : Os) (started : os.Started) (H : Type) (enc : TypeId × Value → H) :
    ReturnsInHanded {} Try.checked os 4 .any (Rows.diskTellsSpec.pre6 enc Try.prog Try.f4 Rows.diskTellsRow.domain false) (Rows.diskTellsSpec.post enc Try.prog Try.f4 false true false false) := by
  refine returnsInHanded_of_change (C := Try.checked) Try.own started (by kernel_rfl) Try.func4
    (ChangeSpec.witness6 (enc := enc) (C := Try.checked) false ⟨#[], #[.agg #[.slice none 0 0, .slice none 0 0, .bool false], .agg #[.slice none 0 0, .slice none 0 0, .bool false], .int .i64 0, .int .i64 0], []⟩ 8 (by kernel_rfl) (by kernel_rfl) (by kernel_rfl) (by kernel_rfl)) ?_
  intro W base args ds gs before hval0 hW hcnd _
  have hval : ∀ (j : Nat) t v, Try.f4.params[j]? = some t → args[j]? = some v → Value.okWide Try.prog W .any base t v := hval0
  have hW' := hW
  obtain ⟨p, q, hA0, hV, rfl, hfz, hnd⟩ := hW
  have hA : DataW.TrodAll enc Try.prog W 0 (fun _ => true) true Try.f4.params.toList args.toList ds p := hA0
  rw [Try.params4] at hA hval
  obtain ⟨v0, vs0, d0, ds0, p0, q0, hargs, rfl, rfl, h0, r0⟩ := trodAll_cons hA
  obtain ⟨v1, vs1, d1, ds1, p1, q1, rfl, rfl, rfl, h1, r1⟩ := trodAll_cons r0
  obtain ⟨v2, vs2, d2, ds2, p2, q2, rfl, rfl, rfl, h2, r2⟩ := trodAll_cons r1
  obtain ⟨v3, vs3, d3, ds3, p3, q3, rfl, rfl, rfl, h3, r3⟩ := trodAll_cons r2
  obtain ⟨rfl, rfl, rfl⟩ := trodAll_nil r3
  obtain rfl : args = #[v0, v1, v2, v3] := by cases args; simp_all
  obtain ⟨rfl, rfl⟩ := trodVars_none hV
  have k0 := h0
  have lt0 : ∀ x ∈ p0, x.block < W.heap.size := by obtain ⟨m, hm⟩ := k0; exact DataW.trod_lt m _ _ _ hm
  obtain ⟨z0, w0⟩ := dev_in (hval 0 25 v0 rfl rfl) h0
  have k1 := h1
  have lt1 : ∀ x ∈ p1, x.block < W.heap.size := by obtain ⟨m, hm⟩ := k1; exact DataW.trod_lt m _ _ _ hm
  obtain ⟨z1, w1⟩ := dev_in (hval 1 25 v1 rfl rfl) h1
  obtain ⟨a2, rfl, rfl, rfl, w2⟩ := open_int Try.underlying3 (hval 2 3 v2 rfl rfl) h2
  obtain ⟨a3, rfl, rfl, rfl, w3⟩ := open_int Try.underlying3 (hval 3 3 v3 rfl rfl) h3
  clear hA0 hval0
  refine (diskTells_walk W v0 z0 w0 v1 z1 w1 a2 w2 a3 w3).mono fun e W' ⟨he, bel⟩ => ?_
  subst he
  exact ⟨_, rfl, _, _, _, [], _, [], hW', trodAll_mk1 (shut_bool Try.underlying4 _), (trodAll_cons_mk (Below.trod Try.laidOut (by kernel_rfl) (of_decide_eq_true (by kernel_rfl)) k0 bel lt0) (trodAll_cons_mk (Below.trod Try.laidOut (by kernel_rfl) (of_decide_eq_true (by kernel_rfl)) k1 bel lt1) (trodAll_cons_mk (shut_int Try.underlying3 w2) (trodAll_cons_mk (shut_int Try.underlying3 w3) trodAll_mk0)))), rfl, bel.frame _, fun h => by cases h⟩

theorem holds : Rows.DiskTellsSaid :=
  OpenClaim.holds_of_wide 4 Try.f4 rfl rfl rfl rfl rfl rfl rfl ⟨rfl, rfl, rfl, rfl, rfl⟩ rfl rfl rfl rfl rfl (by kernel_rfl) Try.func4 (by kernel_rfl)
    (of_decide_eq_true (by kernel_rfl)) (by unfold Func.isWrapper; first | (rw [if_pos (by decide +kernel)]; kernel_rfl) | (rw [if_neg (by decide +kernel)]; exact ⟨rfl, rfl⟩))
    (fun os started H enc _ => lifted os started H enc)
end diskTells
end Go.Proofs.Ytldgpkaecfgagaa
