/- What Write, Fua and Flush hold while they turn their copy; the walk of Flush. -/
import Derived.Test.YtldgpkaecfgagaaDiskE
namespace Go.Proofs.Ytldgpkaecfgagaa
open Go.RowKit PolyM PackM FoldM DevM

/-- A copy of a device in the box b3, the answer's box bR still empty; nothing below has turned. -/
def Held (w : World) (bl : List (List Int)) (wt : List (Int × List Int)) (b3 bR : Nat) (A B : Option Addr) (n C m D : Nat) (dd : Bool) (wr : World) : Prop :=
  ∃ hs ht, wr.ownsRow w.heap.size 29 1 (.slice A n C) n hs ∧ wr.ownsRow w.heap.size 88 2 (.slice B m D) m ht ∧ Hdrs wr hs bl ∧ Waits wr ht wt ∧ High w.heap.size wr hs ∧ High w.heap.size wr ht ∧
    BoxD wr b3 (.slice A n C) (.slice B m D) (.bool dd) ∧ BoxD wr bR (.slice none 0 0) (.slice none 0 0) (.bool false) ∧ bR < b3 ∧ w.heap.size ≤ bR ∧ Below w.heap.size w wr
theorem Held.below {w : World} {bl : List (List Int)} {wt : List (Int × List Int)} {b3 bR : Nat} {A B : Option Addr} {n C m D : Nat} {dd : Bool} {wr wr' : World} (h : Held w bl wt b3 bR A B n C m D dd wr) (hb : Below wr.heap.size wr wr') : Held w bl wt b3 bR A B n C m D dd wr' := by
  obtain ⟨hs, ht, o1, o2, h1, h2, g1, g2, x3, xR, q1, q2, hb1⟩ := h
  exact ⟨hs, ht, own_below o1 hb, own_below o2 hb, h1.below hb (Nat.le_refl _), h2.below hb (Nat.le_refl _), g1.below hb, g2.below hb, x3.below hb, xR.below hb, q1, q2, hb1.trans (hb.mono hb1.size)⟩
theorem Held.init {w W : World} {d : Dev} {bR : Nat} {A B : Option Addr} {n C m D : Nat} {dd : Bool} (h : DevN w.heap.size W (.agg #[.slice A n C, .slice B m D, .bool dd]) d) (xR : BoxD W bR (.slice none 0 0) (.slice none 0 0) (.bool false)) (hR : w.heap.size ≤ bR) (hb : Below w.heap.size w W) :
    dd = d.dead ∧ Held w d.blocks d.wait W.heap.size bR A B n C m D dd (W.alloc (.cells #[.slice A n C, .slice B m D, .bool dd] 25)) := by
  obtain ⟨A', n', C', hs, B', m', D', ht, e, o1, o2, h1, h2, g1, g2, m1, m2⟩ := h
  simp only [Value.agg.injEq, Array.mk.injEq, List.cons.injEq, Value.slice.injEq, Value.bool.injEq, and_true] at e
  obtain ⟨⟨rfl, rfl, rfl⟩, ⟨rfl, rfl, rfl⟩, rfl⟩ := e
  have ha : Below W.heap.size W (W.alloc (.cells #[.slice A n C, .slice B m D, .bool d.dead] 25)) := (Below.refl _ _).alloc (Nat.le_refl _) _
  exact ⟨rfl, hs, ht, own_below o1 ha, own_below o2 ha, h1.below ha (Nat.le_refl _), h2.below ha (Nat.le_refl _), g1.below ha, g2.below ha, BoxD.new _ _ _ _, xR.below ha, xR.lt, hR, hb.alloc hb.size _⟩
theorem DevN.form {K : Nat} {w : World} {v : Value} {d : Dev} (h : DevN K w v d) : ∃ A n C B m D, v = .agg #[.slice A n C, .slice B m D, .bool d.dead] ∧ n = d.blocks.length ∧ m = d.wait.length := by
  obtain ⟨A, n, C, hs, B, m, D, ht, e, o1, o2, h1, h2, _⟩ := h
  exact ⟨A, n, C, B, m, D, e, by rw [← h1.1]; have := o1.1; omega, by have := h2.1; have := o2.1; omega⟩
/-- A block of the copy is set. -/
theorem Held.setBlock {w : World} {bl : List (List Int)} {wt : List (Int × List Int)} {b3 bR : Nat} {B : Option Addr} {n C m D g i : Nat} {dd : Bool} {wr : World} (h : Held w bl wt b3 bR (some ⟨g, 0, none⟩) B n C m D dd wr) {u : Value} {zs : List Int} (hu : Fresh w.heap.size wr u zs) (hi : i < n) :
    Held w (bl.set i zs) wt b3 bR (some ⟨g, 0, none⟩) B n C m D dd (wr.setCell ⟨g, i, none⟩ u) := by
  obtain ⟨hs, ht, o1, o2, h1, h2, g1, g2, x3, xR, q1, q2, hb1⟩ := h
  obtain ⟨A5, L5, C5, rfl, hI, hH⟩ := hu
  have hlen : hs.length = n := by have := o1.1; omega
  have hc := own_cell (k := i) o1 (List.getElem?_eq_getElem (by omega))
  obtain ⟨A0, L0, C0, z0, _, p2, _⟩ := h1.2 i _ (List.getElem?_eq_getElem (by omega))
  rw [p2] at hc
  have hne : ∀ q, Value.slice A0 L0 C0 ≠ .int .u8 q := by intro q; simp
  refine ⟨hs.set i (.slice A5 L5 C5), ht, own_set o1 _, own_other (p := ⟨g, i, none⟩) o2 (own_apart o1 o2 (by decide) rfl) _, (h1.setOther hc.1 hne).set i (hI.setOther hc.1 hne), h2.setOther hc.1 hne, (g1.setCell _ _).set (hH.setCell _ _) i, g2.setCell _ _, x3.other ?_ _, xR.other ?_ _, q1, q2, hb1.setCell (p := ⟨g, i, none⟩) (own_lt o1 rfl).2 _⟩
  · intro e; exact own_box o1 x3 (by decide) (by rw [e]; rfl)
  · intro e; exact own_box o1 xR (by decide) (by rw [e]; rfl)
/-- A copy that is done, and what is answered. -/
theorem Held.dev {w : World} {bl : List (List Int)} {wt : List (Int × List Int)} {b3 bR : Nat} {A B : Option Addr} {n C m D : Nat} {dd : Bool} {wr : World} (h : Held w bl wt b3 bR A B n C m D dd wr) (m1 : n ≤ 9223372036854775807) (m2 : m ≤ 9223372036854775807) : DevN w.heap.size wr (.agg #[.slice A n C, .slice B m D, .bool dd]) ⟨bl, wt, dd⟩ := by
  obtain ⟨hs, ht, o1, o2, h1, h2, g1, g2, x3, xR, q1, q2, hb1⟩ := h
  exact ⟨A, n, C, hs, B, m, D, ht, rfl, o1, o2, h1, h2, g1, g2, m1, m2⟩
theorem DevN.noWait {K : Nat} {w : World} {A B : Option Addr} {n C m D : Nat} {dd : Bool} {bl : List (List Int)} {wt : List (Int × List Int)} (h : DevN K w (.agg #[.slice A n C, .slice B m D, .bool dd]) ⟨bl, wt, dd⟩) : DevN K w (.agg #[.slice A n C, .slice none 0 0, .bool dd]) ⟨bl, [], dd⟩ := by
  obtain ⟨A', n', C', hs, B', m', D', ht, e, o1, o2, h1, h2, g1, g2, m1, m2⟩ := h
  simp only [Value.agg.injEq, Array.mk.injEq, List.cons.injEq, Value.slice.injEq, and_true] at e
  obtain ⟨⟨rfl, rfl, rfl⟩, _⟩ := e
  exact ⟨A, n, C, hs, none, 0, 0, [], rfl, o1, World.ownsRow_nil _ _ _ _, h1, Waits.nil _, g1, High.nil _ _, m1, by omega⟩
theorem Held.boxes {w : World} {bl : List (List Int)} {wt : List (Int × List Int)} {b3 bR : Nat} {A B : Option Addr} {n C m D : Nat} {dd : Bool} {wr : World} (h : Held w bl wt b3 bR A B n C m D dd wr) : BoxD wr b3 (.slice A n C) (.slice B m D) (.bool dd) ∧ BoxD wr bR (.slice none 0 0) (.slice none 0 0) (.bool false) ∧ bR < b3 ∧ w.heap.size ≤ bR ∧ Below w.heap.size w wr := by
  obtain ⟨hs, ht, o1, o2, h1, h2, g1, g2, x3, xR, q1, q2, hb1⟩ := h
  exact ⟨x3, xR, q1, q2, hb1⟩
/-- A block's header and a waiting one's cells, as they stand. -/
theorem Held.block {w : World} {bl : List (List Int)} {wt : List (Int × List Int)} {b3 bR : Nat} {A B : Option Addr} {n C m D : Nat} {dd : Bool} {wr : World} (h : Held w bl wt b3 bR A B n C m D dd wr) {i : Nat} (hi : i < n) :
    ∃ g A0 L0 C0, A = some ⟨g, 0, none⟩ ∧ wr.cell? ⟨g, i, none⟩ = some (.slice A0 L0 C0) ∧ wr.frozen? ⟨g, i, none⟩ = false ∧ g ≠ b3 ∧ g < wr.heap.size := by
  obtain ⟨hs, ht, o1, o2, h1, h2, g1, g2, x3, xR, q1, q2, hb1⟩ := h
  obtain ⟨g, C1, q, _, hgl⟩ := own_head o1 (by omega)
  cases q
  have hlen : hs.length = n := by have := o1.1; omega
  obtain ⟨A0, L0, C0, zs, _, p2, _⟩ := h1.2 i _ (List.getElem?_eq_getElem (by omega))
  have hc := own_cell (k := i) o1 (List.getElem?_eq_getElem (by omega))
  rw [p2] at hc
  exact ⟨g, A0, L0, C0, rfl, hc.1, hc.2, fun q => own_box o1 x3 (by decide) (by rw [← q]; rfl), hgl⟩
theorem Held.waits {w : World} {bl : List (List Int)} {wt : List (Int × List Int)} {b3 bR : Nat} {A B : Option Addr} {n C m D : Nat} {dd : Bool} {wr : World} (h : Held w bl wt b3 bR A B n C m D dd wr) {k : Nat} (hk : k < m) :
    ∃ g A0 L0 C0 x, B = some ⟨g, 0, none⟩ ∧ wt[k]? = some x ∧ wr.cell? ⟨g, k * 2, none⟩ = some (.int .i64 x.1) ∧ wr.cell? ⟨g, k * 2 + 1, none⟩ = some (.slice A0 L0 C0) ∧ (Lit.int .i64 x.1).wf = true ∧ Ints .u8 wr A0 L0 x.2 ∧ Fresh w.heap.size wr (.slice A0 L0 C0) x.2 ∧ g < wr.heap.size ∧ ∀ o, wr.frozen? ⟨g, o, none⟩ = false := by
  obtain ⟨hs, ht, o1, o2, h1, h2, g1, g2, x3, xR, q1, q2, hb1⟩ := h
  obtain ⟨g, C1, q, _, hgl⟩ := own_head o2 (by omega)
  cases q
  have hl : wt.length = m := by have := h2.1; have := o2.1; omega
  have hx : wt[k]? = some (wt[k]'(by omega)) := List.getElem?_eq_getElem _
  obtain ⟨p0, A0, L0, C0, p1, p2, p3⟩ := h2.2 k _ hx
  have hc0 := own_cell (k := k * 2) o2 p1
  have hc1 := own_cell (k := k * 2 + 1) o2 p2
  refine ⟨g, A0, L0, C0, _, rfl, hx, hc0.1, hc1.1, p0, p3, ⟨A0, L0, C0, rfl, p3, g2.sub fun u hu => ?_⟩, hgl, fun o => ?_⟩
  · rw [List.mem_singleton.1 hu]; exact List.mem_of_getElem? p2
  · obtain ⟨_, ⟨e, _⟩ | ⟨g', cap, cur, e, _, hh, _⟩⟩ := o2
    · cases e
    · cases e
      exact frozen_of_row _ _ _ _ _ hh

/-- What is pushed behind all that waits. -/
theorem Waits.push {w : World} {ht : List Value} {wt : List (Int × List Int)} (h : Waits w ht wt) {k : Int} {A : Option Addr} {L C : Nat} {zs : List Int} (hk : (Lit.int .i64 k).wf = true) (hI : Ints .u8 w A L zs) : Waits w (ht ++ [.int .i64 k, .slice A L C]) (wt ++ [(k, zs)]) := by
  have hl := h.1
  refine ⟨by simp; omega, fun i x hx => ?_⟩
  rcases Nat.lt_or_ge i wt.length with q | q
  · rw [List.getElem?_append_left q] at hx
    obtain ⟨h1, A', L', C', e0, e1, e2⟩ := h.2 i x hx
    exact ⟨h1, A', L', C', by rw [List.getElem?_append_left (by omega)]; exact e0, by rw [List.getElem?_append_left (by omega)]; exact e1, e2⟩
  · rw [List.getElem?_append_right q] at hx
    have hi : i = wt.length := by
      have := (List.getElem?_eq_some_iff.1 hx).1
      simp at this
      omega
    subst hi
    simp at hx
    subst hx
    refine ⟨hk, A, L, C, ?_, ?_, hI⟩
    · rw [List.getElem?_append_right (by omega), show wt.length * 2 - ht.length = 0 by omega]; rfl
    · rw [List.getElem?_append_right (by omega), show wt.length * 2 + 1 - ht.length = 1 by omega]; rfl
/-- Flush's error. -/
def flushE (d : Dev) : Int := if ¬ MayD d then 8 else if d.dead = true then 40 else 0
def flushL (bl : List (List Int)) (wt : List (Int × List Int)) : List (List Int) := wt.foldl (fun bl x => bl.set x.1.toNat x.2) bl
theorem flushL_len (wt : List (Int × List Int)) : ∀ bl, (flushL bl wt).length = bl.length := by
  induction wt with
  | nil => intro bl; rfl
  | cons x wt ih => intro bl; show (flushL (bl.set _ _) wt).length = _; rw [ih, List.length_set]
theorem flushL_snoc (bl : List (List Int)) (l : List (Int × List Int)) (x : Int × List Int) : flushL bl (l ++ [x]) = (flushL bl l).set x.1.toNat x.2 := by
  unfold flushL
  rw [List.foldl_append]; rfl
def resD (e : Int) (d : Dev) : Dev := if e = 0 then d else ⟨[], [], false⟩
theorem may_small {d : Dev} (h : MayD d) : d.blocks.length ≤ 300 ∧ d.wait.length ≤ 1100 ∧ (∀ b ∈ d.blocks, b.length ≤ 60000) ∧ ∀ x ∈ d.wait, x.2.length ≤ 60000 := by
  obtain ⟨h1, h2, h3, h4, h5, h6⟩ := h
  refine ⟨by omega, by omega, fun b hb => ?_, fun x hx => ?_⟩
  · rcases (h5 b hb).1 with q | q <;> omega
  · rcases (h6 x hx).2.2 with q | q <;> omega

set_option maxRecDepth 100000 in
set_option maxHeartbeats 4000000 in
theorem flush_no (v : Value) (d : Dev) (w : World) (h : DevV w v d) (hE : flushE d ≠ 0) :
    Calls Try.prog 36 #[v] w (DevIs w (flushE d) ⟨[], [], false⟩) := by
  have hv := h
  obtain ⟨A, n, C, hs, B, m, D, ht, rfl, h1, h2⟩ := h
  have hb : Below w.heap.size w ((w.alloc (.cells #[.slice A n C, .slice B m D, .bool d.dead] 25)).alloc (.cells #[.slice none 0 0, .slice none 0 0, .bool false] 25)) := ((Below.refl _ _).alloc (Nat.le_refl _) _).alloc (by simp) _
  have cc := check_calls _ d _ (hv.below hb (Nat.le_refl _))
  have bx0 := (BoxD.new w (.slice A n C) (.slice B m D) (.bool d.dead)).alloc (.cells #[.slice none 0 0, .slice none 0 0, .bool false] 25)
  have bx1 := BoxD.new (w.alloc (.cells #[.slice A n C, .slice B m D, .bool d.dead] 25)) (.slice none 0 0) (.slice none 0 0) (.bool false)
  rw [World.size_alloc] at bx1
  have hx : (chk d = 8 ∧ Hid (flushE d = 8)) ∨ (chk d = 0 ∧ d.dead = true ∧ Hid (flushE d = 40)) := by
    unfold flushE at *
    by_cases p1 : MayD d
    · rw [if_neg (fun q => q p1)] at *
      by_cases p2 : d.dead = true
      · exact .inr ⟨chk_may p1, p2, if_pos p2⟩
      · rw [if_neg p2] at hE; exact absurd rfl hE
    · exact .inl ⟨chk_not p1, if_pos p1⟩
  clear hE hv h1 h2
  generalize d.dead = dd at *
  rcases hx with ⟨q1, E⟩ | ⟨q1, q2, E⟩
  case' inr => subst q2
  all_goals
    rw [E.out]
    rw [q1] at cc
    clear q1
    go_enter Try.func36, Try.ntmps36
    go_wp2_with fail
    (with_reducible refine cc.mono ?_)
    rintro e w2 ⟨rfl, hb2⟩
    have b0 := bx0.below hb2
    have b1 := bx1.below hb2
    have e2 := b0.c2
    have f0 := b1.c0
    have f1 := b1.c1
    have f2 := b1.c2
    have r0 := b1.fr (o := 0)
    have r1 := b1.fr (o := 1)
    have r2 := b1.fr (o := 2)
    clear cc bx0 bx1
    go_wp2
    have hB : Below w.heap.size w (((w2.setCell ⟨w.heap.size + 1, 0, none⟩ (.slice none 0 0)).setCell ⟨w.heap.size + 1, 1, none⟩ (.slice none 0 0)).setCell ⟨w.heap.size + 1, 2, none⟩ (.bool false)) := (((hb.trans (hb2.mono hb.size)).setCell (by simp) _).setCell (by simp) _).setCell (by simp) _
  · exact bodyPost_ret (v := .tuple #[noDev, .int .i64 40]) (by simp [results, Try.results36, go_sem, f0, f1, f2, noDev]) rfl ⟨_, rfl, noDev_is _ _, hB⟩
  · exact bodyPost_ret (v := .tuple #[noDev, .int .i64 8]) (by simp [results, Try.results36, go_sem, f0, f1, f2, noDev]) rfl ⟨_, rfl, noDev_is _ _, hB⟩

set_option maxRecDepth 100000 in
set_option maxHeartbeats 4000000 in
theorem flush_yes (v : Value) (d : Dev) (w : World) (h : DevV w v d) (hM : MayD d) (hdd : d.dead = false) :
    Calls Try.prog 36 #[v] w (DevIs w 0 ⟨flushL d.blocks d.wait, [], false⟩) := by
  have hv := h
  obtain ⟨A, n, C, hs, B, m, D, ht, rfl, h1, h2⟩ := h
  have hb : Below w.heap.size w ((w.alloc (.cells #[.slice A n C, .slice B m D, .bool d.dead] 25)).alloc (.cells #[.slice none 0 0, .slice none 0 0, .bool false] 25)) := ((Below.refl _ _).alloc (Nat.le_refl _) _).alloc (by simp) _
  have cc := check_calls _ d _ (hv.below hb (Nat.le_refl _))
  rw [chk_may hM] at cc
  have bx0 := (BoxD.new w (.slice A n C) (.slice B m D) (.bool d.dead)).alloc (.cells #[.slice none 0 0, .slice none 0 0, .bool false] 25)
  have bx1 := BoxD.new (w.alloc (.cells #[.slice A n C, .slice B m D, .bool d.dead] 25)) (.slice none 0 0) (.slice none 0 0) (.bool false)
  rw [World.size_alloc] at bx1
  obtain ⟨s1, s2, s3, s4⟩ := may_small hM
  have ct := fun W (hW : Below w.heap.size w W) => twin_calls _ d W (hv.below hW (Nat.le_refl _)) s1 s2 s3 s4
  have hn := Lib.hid (show d.blocks.length = n ∧ d.wait.length = m from ⟨h1.len, h2.len⟩)
  have hm1 := h1.max
  have hm2 := h2.max
  have hw := Lib.hid (fun x (hx : x ∈ d.wait) => (hM.2.2.2.2.2 x hx))
  have hdd' := Lib.hid hdd
  rw [hdd] at hb cc bx0 bx1 ct ⊢
  clear hM hv h1 h2 s1 s2 s3 s4 hdd
  go_enter Try.func36, Try.ntmps36
  go_wp2_with fail
  (with_reducible refine cc.mono ?_)
  rintro e w2 ⟨rfl, hb2⟩
  have hb3 := hb.trans (hb2.mono hb.size)
  have b0 := bx0.below hb2
  have b1 := bx1.below hb2
  have e0 := b0.c0
  have e1 := b0.c1
  have e2 := b0.c2
  clear cc bx0 bx1 hb hb2
  go_wp2_with fail
  (with_reducible refine (ct _ hb3).mono ?_)
  rintro e w4 ⟨v4, rfl, hN, hb4⟩
  obtain ⟨A', n', C', B', m', D', rfl, hn', hm'⟩ := hN.form
  have hbW := hb3.trans (hb4.mono hb3.size)
  have hI := (Held.init (hN.mono hb3.size) (b1.below hb4) (by omega) hbW).2
  obtain rfl : n' = n := by rw [hn']; exact hn.out.1
  obtain rfl : m' = m := by rw [hm']; exact hn.out.2
  rw [hdd'.out] at hI ⊢
  have hI' := Lib.hid hI
  have g1 := hI.boxes.1.c1
  clear ct hN hI b0 b1 hn' hm' hdd'
  go_wp2
  go_loopw [22] (fun i wr => ∃ k : Nat, k ≤ m' ∧ i = .int .i64 k ∧ Held w (flushL d.blocks (d.wait.take k)) d.wait w4.heap.size (w.heap.size + 1) A' B' n' C' m' D' false wr) (fun i _ => m' - (intOf i).toNat)
  case atStart => exact ⟨0, by omega, rfl, hI'.out⟩
  case round =>
    obtain ⟨k, hk, rfl, hT⟩ := hrel
    clear hI' g1
    by_cases hkn : k < m'
    · obtain ⟨gB, A0, L0, C0, x, rfl, hx, c0, c1, wx, hI, hF, hlB, _⟩ := hT.waits hkn
      obtain ⟨q0, q1, _⟩ := hw.out x (List.mem_of_getElem? hx)
      have hn1 := hn.out.1
      have F : Hid (flushL d.blocks (d.wait.take (k + 1)) = (flushL d.blocks (d.wait.take k)).set x.1.toNat x.2) := by
        refine Lib.hid ?_
        rw [take_snocL hx, flushL_snoc]
      obtain ⟨at_, dat⟩ := x
      simp only at *
      have q2 : at_ < (n' : Int) := by omega
      obtain ⟨gA, A1, L1, C1, rfl, k0, kf, kb, hlA⟩ := hT.block (i := at_.toNat) (by omega)
      have x0 := hT.boxes.1.c0
      have hl4 := hT.boxes.1.lt
      have hN := Lib.hid ((hT.setBlock hF (i := at_.toNat) (by omega)).below ((Below.refl _ _).alloc (Nat.le_refl _) (.cells #[.int .i64 at_, .slice A0 L0 C0] 88)))
      rw [← F.out] at hN
      have hkn1 : (k : Int) < (m' : Int) := by omega
      clear hT hF hI hx wx q1 hn1 F
      go_wp2
      go_roundw
      case rel => exact ⟨k + 1, by omega, by go_num, hN.out⟩
      case measure => simp [intOf]; omega
    · obtain rfl : m' = k := by omega
      have F : Hid (flushL d.blocks (d.wait.take m') = flushL d.blocks d.wait) := by refine Lib.hid ?_; rw [List.take_of_length_le (by rw [hn.out.2]; exact Nat.le_refl _)]
      rw [F.out] at hT
      obtain ⟨y3, yR, l3, lR, hBw⟩ := hT.boxes
      have x0 := y3.c0
      have x1 := y3.c1
      have x2 := y3.c2
      have xf := y3.fr (o := 1)
      have f0 := yR.c0
      have f1 := yR.c1
      have f2 := yR.c2
      have r0 := yR.fr (o := 0)
      have r1 := yR.fr (o := 1)
      have r2 := yR.fr (o := 2)
      have hD := Lib.hid (hT.dev hm1 hm2)
      have hne : w4.heap.size ≠ w.heap.size + 1 := by omega
      clear hT
      go_wp2
      have d1 := hD.out.noWait.setBox (u := .slice none 0 0) y3 y3.c1 (by intro q; simp)
      have yR' := yR.other (p := ⟨w4.heap.size, 1, none⟩) (Ne.symm hne) (.slice none 0 0)
      have d2 := (d1.setBox3 yR' (.slice A' n' C') (.slice none 0 0) (.bool false)).1
      exact bodyPost_ret (v := .tuple #[.agg #[.slice A' n' C', .slice none 0 0, .bool false], .int .i64 0]) (by simp [results, Try.results36, go_sem, f0, f1, f2]) rfl ⟨_, rfl, d2, (((hBw.setCell (by show w.heap.size ≤ w4.heap.size; omega) _).setCell (by simp) _).setCell (by simp) _).setCell (by simp) _⟩
theorem flush_calls (v : Value) (d : Dev) (w : World) (h : DevV w v d) :
    Calls Try.prog 36 #[v] w (DevIs w (flushE d) (resD (flushE d) ⟨flushL d.blocks d.wait, [], false⟩)) := by
  by_cases hE : flushE d = 0
  · have hM : MayD d ∧ d.dead = false := by
      unfold flushE at hE
      by_cases p1 : MayD d
      · rw [if_neg (fun q => q p1)] at hE
        by_cases p2 : d.dead = true
        · rw [if_pos p2] at hE; omega
        · exact ⟨p1, by simpa using p2⟩
      · rw [if_pos p1] at hE; omega
    rw [hE]
    exact flush_yes v d w h hM.1 hM.2
  · rw [show resD (flushE d) ⟨flushL d.blocks d.wait, [], false⟩ = ⟨[], [], false⟩ from if_neg hE]
    exact flush_no v d w h hE
end Go.Proofs.Ytldgpkaecfgagaa
