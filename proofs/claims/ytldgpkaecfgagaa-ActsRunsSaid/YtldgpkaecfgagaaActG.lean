/- How many writes wait; the walk of package acts's kept. -/
import Derived.Test.YtldgpkaecfgagaaActC
import Derived.Test.YtldgpkaecfgagaaDiskF
namespace Go.Proofs.Ytldgpkaecfgagaa
open Go.RowKit Go.WideShapes Go.ChangeShapes PolyM PackM FoldM DevM

def manyL (ds : List Dev) : Nat := (ds.map fun d => d.wait.length).sum
theorem manyL_snoc (l : List Dev) (d : Dev) : manyL (l ++ [d]) = manyL l + d.wait.length := by simp [manyL]
theorem manyL_app (l r : List Dev) : manyL (l ++ r) = manyL l + manyL r := by simp [manyL]
theorem manyL_le {l : List Dev} (h : ∀ d ∈ l, d.wait.length ≤ 1024) : manyL l ≤ 1024 * l.length := by
  induction l with
  | nil => simp [manyL]
  | cons d l ih =>
    have h1 := h d List.mem_cons_self
    have h2 := ih fun x hx => h x (List.mem_cons_of_mem _ hx)
    simp only [manyL, List.map_cons, List.sum_cons, List.length_cons] at *
    omega
theorem dev_wait {w : World} {A B : Option Addr} {n C m D : Nat} {dd : Bool} {d : Dev} (h : DevV w (.agg #[.slice A n C, .slice B m D, .bool dd]) d) : d.wait.length = m ∧ d.blocks.length = n := by
  obtain ⟨_, _, _, _, _, _, _, _, e, h1, h2⟩ := h
  simp only [Value.agg.injEq, Array.mk.injEq, List.cons.injEq, Value.slice.injEq, Value.bool.injEq, and_true] at e
  obtain ⟨⟨rfl, rfl, rfl⟩, ⟨rfl, rfl, rfl⟩, _⟩ := e
  exact ⟨h2.len, h1.len⟩
set_option maxRecDepth 100000 in
set_option maxHeartbeats 4000000 in
theorem actwaits_calls (a : Option Addr) (n c : Nat) (hs : List Value) (ds : List Dev) (w : World) (h : DSlab w a n hs ds) :
    Calls Try.prog 59 #[.slice a n c] w fun e w' => e = .returned (.tuple #[.int .i64 ((if MayL ds then manyL ds else 0 : Nat) : Int), .int .i64 (chkL ds)]) ∧ Below w.heap.size w w' := by
  have cc := checkdisks_calls a n c hs ds w h
  have hl := Lib.hid h.len
  have hm := h.max
  by_cases hM : MayL ds
  · rw [if_pos hM]
    rw [show chkL ds = 0 from if_pos hM] at cc ⊢
    have H := Lib.hid h
    have HM := Lib.hid hM
    clear h hM
    go_enter Try.func59, Try.ntmps59
    go_wp2_with fail
    (with_reducible refine cc.mono ?_)
    rintro e w2 ⟨rfl, hb2⟩
    clear cc
    go_wp2
    go_loopw [5, 15] (fun s i wr => ∃ k : Nat, k ≤ n ∧ i = .int .i64 k ∧ s = .int .i64 (manyL (ds.take k) : Nat) ∧ Below w.heap.size w wr) (fun _ i _ => n - (intOf i).toNat)
    case atStart => exact ⟨0, by omega, rfl, rfl, hb2⟩
    case round =>
      obtain ⟨k, hk, rfl, rfl, hB⟩ := hrel
      clear hb2
      by_cases hkn : k < n
      · obtain ⟨b, off, A, l, C, B, m, D, d, rfl, hd, hlt, q0, q1, q2, hv⟩ := H.out.at hkn
        have hkn1 : (k : Int) < (n : Int) := by omega
        have c0 := (hB.cell (p := ⟨b, off + k * 3, none⟩) hlt).trans q0
        have c1 := (hB.cell (p := ⟨b, off + k * 3 + 1, none⟩) hlt).trans q1
        have c2 := (hB.cell (p := ⟨b, off + k * 3 + 2, none⟩) hlt).trans q2
        have hBa := hB.alloc hB.size (.cells #[.slice A l C, .slice B m D, .bool d.dead] 25)
        have hw := (dev_wait hv).1
        have hle : manyL (ds.take (k + 1)) ≤ 1024 * 17 := by
          have t1 := manyL_le (l := ds.take (k + 1)) fun x hx => (HM.out.2.2 x (List.mem_of_mem_take hx)).2.2.1
          have t2 : (ds.take (k + 1)).length ≤ 17 := by rw [List.length_take]; have := HM.out.2.1; omega
          omega
        have E := Lib.hid (show manyL (ds.take (k + 1)) = manyL (ds.take k) + m by rw [take_snocL hd, manyL_snoc, hw])
        have hle2 : manyL (ds.take k) + m ≤ 17408 := by have := E.out; omega
        clear hd hv q0 q1 q2 hw hle
        generalize manyL (ds.take k) = s at *
        go_wp2
        go_roundw
        case rel => exact ⟨k + 1, by omega, by go_num, by rw [E.out]; go_num, hBa⟩
        case measure => simp [intOf]; omega
      · obtain rfl : n = k := by omega
        have E := Lib.hid (show ds.take n = ds from List.take_of_length_le (by have := hl.out; omega))
        go_wp2
        go_ret2
        rw [E.out]
        exact ⟨rfl, hB⟩
  · rw [if_neg hM]
    rw [show chkL ds = 8 from if_neg hM] at cc ⊢
    clear h hM
    go_enter Try.func59, Try.ntmps59
    go_wp2_with fail
    (with_reducible refine cc.mono ?_)
    rintro e w2 ⟨rfl, hb2⟩
    clear cc
    go_wp2
    go_ret2
    exact ⟨rfl, hb2⟩

/-- Blocks behind writes of which those with a mark are kept. -/
def keptB (bl : List (List Int)) (l : List ((Int × List Int) × Bool)) : List (List Int) := l.foldl (fun bl p => if p.2 = true then bl.set p.1.1.toNat p.1.2 else bl) bl
theorem keptB_snoc (bl : List (List Int)) (l : List ((Int × List Int) × Bool)) (p : (Int × List Int) × Bool) : keptB bl (l ++ [p]) = if p.2 = true then (keptB bl l).set p.1.1.toNat p.1.2 else keptB bl l := by
  unfold keptB
  rw [List.foldl_append]; rfl
theorem keptB_len (l : List ((Int × List Int) × Bool)) : ∀ bl, (keptB bl l).length = bl.length := by
  induction l with
  | nil => intro bl; rfl
  | cons p l ih =>
    intro bl
    show (keptB (if p.2 = true then bl.set p.1.1.toNat p.1.2 else bl) l).length = _
    rw [ih]
    split
    · exact List.length_set
    · rfl
def keptD (d : Dev) (bs : List Bool) : Dev := ⟨keptB d.blocks (d.wait.zip bs), [], d.dead⟩
/-- What holds while the marks are gone through: the rows of the device, its box, the empty box; nothing but its row of blocks has turned. -/
def KeptS (K : Nat) (w : World) (A : Option Addr) (n C : Nat) (B : Option Addr) (m D : Nat) (dd : Bool) (ht : List Value) (bl : List (List Int)) (wt : List (Int × List Int)) (wr : World) : Prop :=
  ∃ hs, wr.ownsRow K 29 1 (.slice A n C) n hs ∧ wr.ownsRow K 88 2 (.slice B m D) m ht ∧ Hdrs wr hs bl ∧ Waits wr ht wt ∧ High K wr hs ∧ High K wr ht ∧
    BoxD wr w.heap.size (.slice A n C) (.slice B m D) (.bool dd) ∧ BoxD wr (w.heap.size + 1) (.slice none 0 0) (.slice none 0 0) (.bool false) ∧ w.grownBy wr (Value.slice A n C).ownBlock
theorem grownS_alloc {w wr : World} {r : Option Nat} (h : w.grownBy wr r) (o : Obj) : w.grownBy (wr.alloc o) r := by
  refine ⟨h.os, h.tape, h.output, Nat.le_trans h.size (by simp), fun b hb hr => ?_⟩
  rw [Below.heap_alloc _ _ _ (Nat.lt_of_lt_of_le hb h.size)]
  exact h.block b hb hr
theorem grownS_set {w wr : World} {r : Option Nat} (h : w.grownBy wr r) {p : Addr} (u : Value) (hp : some p.block = r ∨ w.heap.size ≤ p.block) : w.grownBy (wr.setCell p u) r := by
  refine ⟨h.os, h.tape, h.output, by simpa using h.size, fun b hb hr => ?_⟩
  rw [Below.heap_setCell _ _ _ _ (fun e => ?_)]
  · exact h.block b hb hr
  · rcases hp with q | q
    · exact hr (by rw [e]; exact q)
    · omega
theorem KeptS.alloc {K : Nat} {w : World} {A : Option Addr} {n C : Nat} {B : Option Addr} {m D : Nat} {dd : Bool} {ht : List Value} {bl : List (List Int)} {wt : List (Int × List Int)} {wr : World} (h : KeptS K w A n C B m D dd ht bl wt wr) (o : Obj) : KeptS K w A n C B m D dd ht bl wt (wr.alloc o) := by
  obtain ⟨hs, o1, o2, h1, h2, g1, g2, x, y, gr⟩ := h
  have ha : Below wr.heap.size wr (wr.alloc o) := (Below.refl _ _).alloc (Nat.le_refl _) _
  exact ⟨hs, own_below o1 ha, own_below o2 ha, h1.below ha (Nat.le_refl _), h2.below ha (Nat.le_refl _), g1.below ha, g2.below ha, x.below ha, y.below ha, grownS_alloc gr _⟩
theorem KeptS.set {K : Nat} {w : World} {g n C : Nat} {B : Option Addr} {m D : Nat} {dd : Bool} {ht : List Value} {bl : List (List Int)} {wt : List (Int × List Int)} {wr : World} (h : KeptS K w (some ⟨g, 0, none⟩) n C B m D dd ht bl wt wr) {i : Nat} (hi : i < n) {A5 : Option Addr} {L5 C5 : Nat} {zs : List Int} (hI : Ints .u8 wr A5 L5 zs) (hH : High K wr [.slice A5 L5 C5]) :
    KeptS K w (some ⟨g, 0, none⟩) n C B m D dd ht (bl.set i zs) wt (wr.setCell ⟨g, i, none⟩ (.slice A5 L5 C5)) := by
  obtain ⟨hs, o1, o2, h1, h2, g1, g2, x, y, gr⟩ := h
  have hlen : hs.length = n := by have := o1.1; omega
  have hc := own_cell (k := i) o1 (List.getElem?_eq_getElem (by omega))
  obtain ⟨A0, L0, C0, z0, _, p2, _⟩ := h1.2 i _ (List.getElem?_eq_getElem (by omega))
  rw [p2] at hc
  have hne : ∀ q, Value.slice A0 L0 C0 ≠ .int .u8 q := by intro q; simp
  refine ⟨hs.set i (.slice A5 L5 C5), own_set o1 _, own_other (p := ⟨g, i, none⟩) o2 (own_apart o1 o2 (by decide) rfl) _, (h1.setOther hc.1 hne).set i (hI.setOther hc.1 hne), h2.setOther hc.1 hne, (g1.setCell _ _).set (hH.setCell _ _) i, g2.setCell _ _, x.other ?_ _, y.other ?_ _, grownS_set gr _ (.inl rfl)⟩
  · intro e; exact own_box o1 x (by decide) (by rw [e]; rfl)
  · intro e; exact own_box o1 y (by decide) (by rw [e]; rfl)
theorem KeptS.header {K : Nat} {w : World} {A : Option Addr} {n C : Nat} {B : Option Addr} {m D : Nat} {dd : Bool} {ht : List Value} {bl : List (List Int)} {wt : List (Int × List Int)} {wr : World} (h : KeptS K w A n C B m D dd ht bl wt wr) {i : Nat} (hi : i < n) :
    ∃ g A0 L0 C0, A = some ⟨g, 0, none⟩ ∧ wr.cell? ⟨g, i, none⟩ = some (.slice A0 L0 C0) ∧ wr.frozen? ⟨g, i, none⟩ = false ∧ g < wr.heap.size ∧ g ≠ w.heap.size := by
  obtain ⟨hs, o1, o2, h1, h2, g1, g2, x, y, gr⟩ := h
  obtain ⟨g, C1, q, _, hgl⟩ := own_head o1 (by omega)
  cases q
  have hlen : hs.length = n := by have := o1.1; omega
  obtain ⟨A0, L0, C0, zs, _, p2, _⟩ := h1.2 i _ (List.getElem?_eq_getElem (by omega))
  have hc := own_cell (k := i) o1 (List.getElem?_eq_getElem (by omega))
  rw [p2] at hc
  exact ⟨g, A0, L0, C0, rfl, hc.1, hc.2, hgl, fun e => own_box o1 x (by decide) (by rw [e]; rfl)⟩
theorem KeptS.wait {K : Nat} {w : World} {A : Option Addr} {n C : Nat} {B : Option Addr} {m D : Nat} {dd : Bool} {ht : List Value} {bl : List (List Int)} {wt : List (Int × List Int)} {wr : World} (h : KeptS K w A n C B m D dd ht bl wt wr) {k : Nat} (hk : k < m) :
    ∃ g A0 L0 C0 x, B = some ⟨g, 0, none⟩ ∧ wt[k]? = some x ∧ wr.cell? ⟨g, k * 2, none⟩ = some (.int .i64 x.1) ∧ wr.cell? ⟨g, k * 2 + 1, none⟩ = some (.slice A0 L0 C0) ∧ (Lit.int .i64 x.1).wf = true ∧ Ints .u8 wr A0 L0 x.2 ∧ High K wr [.slice A0 L0 C0] ∧ g < wr.heap.size := by
  obtain ⟨hs, o1, o2, h1, h2, g1, g2, x, y, gr⟩ := h
  obtain ⟨g, C1, q, _, hgl⟩ := own_head o2 (by omega)
  cases q
  have hl : wt.length = m := by have := h2.1; have := o2.1; omega
  have hx : wt[k]? = some (wt[k]'(by omega)) := List.getElem?_eq_getElem _
  obtain ⟨p0, A0, L0, C0, p1, p2, p3⟩ := h2.2 k _ hx
  exact ⟨g, A0, L0, C0, _, rfl, hx, (own_cell o2 p1).1, (own_cell o2 p2).1, p0, p3, g2.sub fun u hu => by rw [List.mem_singleton.1 hu]; exact List.mem_of_getElem? p2, hgl⟩
theorem grownS_below {K : Nat} {wK w wr : World} {r : Option Nat} (h : Below K wK w) (hg : w.grownBy wr r) (hr : ∀ b, some b = r → K ≤ b) (hK : K ≤ w.heap.size) : Below K wK wr := by
  refine ⟨hg.os.trans h.os, hg.tape.trans h.tape, hg.output.trans h.output, Nat.le_trans h.size hg.size, fun b hb => ?_⟩
  rw [hg.block b (by omega) (fun e => by have := hr b e; omega)]
  exact h.block b hb

set_option maxRecDepth 100000 in
set_option maxHeartbeats 4000000 in
theorem kept_calls (A : Option Addr) (n C : Nat) (B : Option Addr) (m D : Nat) (dd : Bool) (d : Dev) (wK w : World) (aM : Option Addr) (nM cM : Nat) (bs : List Bool) (hN : DevN wK.heap.size w (.agg #[.slice A n C, .slice B m D, .bool dd]) d) (hK : Below wK.heap.size wK w) (hM : MayD d) (hb : Row wK 1 aM nM (bs.map Value.bool)) (hl : nM = m) :
    Calls Try.prog 87 #[.agg #[.slice A n C, .slice B m D, .bool dd], .slice aM nM cM] w fun e w' => e = .returned (.agg #[.slice A n C, .slice none 0 0, .bool dd]) ∧ DevN wK.heap.size w' (.agg #[.slice A n C, .slice none 0 0, .bool dd]) (keptD d bs) ∧ w.grownBy w' (Value.slice A n C).ownBlock ∧ Below wK.heap.size wK w' := by
  subst hl
  have hbl : bs.length = nM := by have := hb.1; simpa using this
  obtain ⟨A', n', C', hs, B', m', D', ht, e, o1, o2, h1, h2, g1, g2, m1, m2⟩ := hN
  simp only [Value.agg.injEq, Array.mk.injEq, List.cons.injEq, Value.slice.injEq, Value.bool.injEq, and_true] at e
  obtain ⟨⟨rfl, rfl, rfl⟩, ⟨rfl, rfl, rfl⟩, rfl⟩ := e
  have hlw : d.wait.length = nM := by have := h2.1; have := o2.1; omega
  have hlb : d.blocks.length = n := by rw [← h1.1]; have := o1.1; omega
  have hgA : ∀ b, some b = (Value.slice A n C).ownBlock → wK.heap.size ≤ b := fun b e => (own_lt o1 e.symm).2
  have hb2 : Below w.heap.size w ((w.alloc (.cells #[.slice A n C, .slice B nM D, .bool d.dead] 25)).alloc (.cells #[.slice none 0 0, .slice none 0 0, .bool false] 25)) := ((Below.refl _ _).alloc (Nat.le_refl _) _).alloc (by simp) _
  have bx0 := (BoxD.new w (.slice A n C) (.slice B nM D) (.bool d.dead)).alloc (.cells #[.slice none 0 0, .slice none 0 0, .bool false] 25)
  have bx1 := BoxD.new (w.alloc (.cells #[.slice A n C, .slice B nM D, .bool d.dead] 25)) (.slice none 0 0) (.slice none 0 0) (.bool false)
  rw [World.size_alloc] at bx1
  have hS0 : Hid (KeptS wK.heap.size w A n C B nM D d.dead ht (keptB d.blocks ((d.wait.zip bs).take 0)) d.wait ((w.alloc (.cells #[.slice A n C, .slice B nM D, .bool d.dead] 25)).alloc (.cells #[.slice none 0 0, .slice none 0 0, .bool false] 25))) := Lib.hid ⟨hs, own_below o1 hb2, own_below o2 hb2, by rw [List.take_zero]; exact h1.below hb2 (Nat.le_refl _), h2.below hb2 (Nat.le_refl _), g1.below hb2, g2.below hb2, bx0, bx1, grownS_alloc (grownS_alloc ⟨rfl, rfl, rfl, Nat.le_refl _, fun _ _ _ => rfl⟩ _) _⟩
  have HM := Lib.hid hM
  have HL := Lib.hid (And.intro hbl (And.intro hlw hlb))
  have HA := Lib.hid hgA
  have HK := Lib.hid hK
  have HBR := Lib.hid hb
  have e1 := bx0.c1
  have hKs := hK.size
  have hm2 : nM ≤ 1024 := by have := hM.2.2.1; omega
  clear o1 o2 h1 h2 g1 g2 hM hbl hlw hgA hK hb bx0 bx1 hb2 hlb
  have HKD := Lib.hid (show keptD d bs = ⟨(keptD d bs).blocks, [], d.dead⟩ from rfl)
  generalize d.dead = dd at *
  go_enter Try.func87, Try.ntmps87
  go_wp2
  clear e1
  go_loopw [10] (fun i wr => ∃ k : Nat, k ≤ nM ∧ i = .int .i64 k ∧ KeptS wK.heap.size w A n C B nM D dd ht (keptB d.blocks ((d.wait.zip bs).take k)) d.wait wr) (fun i _ => nM - (intOf i).toNat)
  case atStart => exact ⟨0, by omega, rfl, hS0.out⟩
  case round =>
    obtain ⟨k, hk, rfl, hS⟩ := hrel
    clear hS0
    by_cases hkn : k < nM
    · obtain ⟨gW, A0, L0, C0, x, rfl, hx, c0, c1, hwf, hI, hH, hgl⟩ := hS.wait hkn
      obtain ⟨bM, oM, haM, hltM, hcM⟩ : ∃ bM oM, aM = some ⟨bM, oM, none⟩ ∧ bM < wK.heap.size ∧ ∀ i v, (bs.map Value.bool)[i]? = some v → wK.cell? ⟨bM, oM + i, none⟩ = some v := by
        rcases HBR.out.2 with q | q
        · omega
        · exact q
      subst haM
      have hxb : bs[k]? = some (bs[k]'(by have := HL.out.1; omega)) := List.getElem?_eq_getElem _
      generalize (bs[k]'(by have := HL.out.1; omega)) = mk at hxb
      have hgr : w.grownBy wr (Value.slice A n C).ownBlock := by
        obtain ⟨_, _, _, _, _, _, _, _, _, q⟩ := hS
        exact q
      have hBr := grownS_below HK.out hgr HA.out hKs
      have cM : wr.cell? ⟨bM, oM + k, none⟩ = some (.bool mk) := (hBr.cell (p := ⟨bM, oM + k, none⟩) hltM).trans (hcM k _ (by rw [List.getElem?_map, hxb]; rfl))
      have hMlt : bM < wr.heap.size := Nat.lt_of_lt_of_le hltM hBr.size
      have hz : (d.wait.zip bs)[k]? = some (x, mk) := by rw [List.getElem?_zip_eq_some]; exact ⟨hx, hxb⟩
      obtain ⟨p1, p2, _⟩ := HM.out.2.2.2.2.2 x (List.mem_of_getElem? hx)
      have hkn1 : (k : Int) < (nM : Int) := by omega
      obtain ⟨j, hj⟩ : ∃ q : Nat, x.1 = q := ⟨x.1.toNat, by omega⟩
      have hjn : j < n := by have := HL.out.2.2; omega
      have hjn1 : (j : Int) < (n : Int) := by omega
      have hSa := hS.alloc (.cells #[.int .i64 x.1, .slice A0 L0 C0] 88)
      obtain ⟨gA, A1, L1, C1, rfl, y0, y1, hgA, hgne⟩ := hSa.header hjn
      have hx0 : BoxD (wr.alloc (.cells #[.int .i64 x.1, .slice A0 L0 C0] 88)) w.heap.size (.slice (some ⟨gA, 0, none⟩) n C) (.slice (some ⟨gW, 0, none⟩) nM D) (.bool dd) := by
        obtain ⟨_, _, _, _, _, _, _, q, _⟩ := hSa
        exact q
      have e0 := hx0.c0
      have E := Lib.hid (show keptB d.blocks ((d.wait.zip bs).take (k + 1)) = if mk = true then (keptB d.blocks ((d.wait.zip bs).take k)).set j x.2 else keptB d.blocks ((d.wait.zip bs).take k) by
        rw [take_snocL hz, keptB_snoc]
        simp only
        rw [hj]; rfl)
      have ha : Below wr.heap.size wr (wr.alloc (.cells #[.int .i64 x.1, .slice A0 L0 C0] 88)) := (Below.refl _ _).alloc (Nat.le_refl _) _
      have HSN := Lib.hid (hSa.set hjn (hI.below ha (Nat.le_refl _)) (hH.below ha))
      have HSA := Lib.hid hSa
      rw [hj] at c0 y0 y1 e0 HSN HSA
      obtain ⟨at_, dat⟩ := x
      simp only at hj c0 c1 hwf hI HSN HSA y0 y1 e0 E
      clear hS hx hxb hgr hBr hz p1 p2 hSa hx0 hI hH ha hcM hj hwf
      rcases mk with _ | _
      · have E2 := Lib.hid (E.out.trans (if_neg (by simp)))
        clear E HSN y0 y1 e0
        go_wp2
        go_roundw
        case rel => exact ⟨k + 1, by omega, by go_num, by rw [E2.out]; exact HSA.out⟩
        case measure => simp [intOf]; omega
      · have E2 := Lib.hid (E.out.trans (if_pos rfl))
        clear E HSA
        go_wp2
        go_roundw
        case rel => exact ⟨k + 1, by omega, by go_num, by rw [E2.out]; exact HSN.out⟩
        case measure => simp [intOf]; omega
    · obtain rfl : nM = k := by omega
      have E := Lib.hid (show keptB d.blocks ((d.wait.zip bs).take nM) = (keptD d bs).blocks by
        rw [List.take_of_length_le (by rw [List.length_zip]; have := HL.out; omega)]; rfl)
      rw [E.out] at hS
      obtain ⟨hs', o1, o2, h1, h2, g1, g2, x, y, gr⟩ := hS
      have p0 := x.c0
      have p1 := x.c1
      have p2 := x.c2
      have z1 := x.fr (o := 1)
      have x1 := x.s1 (.slice none 0 0)
      have y1 := y.other (p := ⟨w.heap.size, 1, none⟩) (show w.heap.size + 1 ≠ w.heap.size by omega) (.slice none 0 0)
      have f0 := y.c0
      have f1 := y.c1
      have f2 := y.c2
      have r0 := y.fr (o := 0)
      have r1 := y.fr (o := 1)
      have r2 := y.fr (o := 2)
      have hDN : DevN wK.heap.size wr (.agg #[.slice A n C, .slice none 0 0, .bool dd]) ⟨(keptD d bs).blocks, [], dd⟩ := ⟨A, n, C, hs', none, 0, 0, [], rfl, o1, World.ownsRow_nil _ _ _ _, h1, Waits.nil _, g1, High.nil _ _, m1, by omega⟩
      have HD1 := hDN.setBox (u := .slice none 0 0) x x.c1 (by intro q; simp)
      have HD2 := Lib.hid (HD1.setBox3 y1 (.slice A n C) (.slice none 0 0) (.bool dd)).1
      have HG := Lib.hid (grownS_set (grownS_set (grownS_set (grownS_set gr (p := ⟨w.heap.size, 1, none⟩) (.slice none 0 0) (.inr (Nat.le_refl _))) (p := ⟨w.heap.size + 1, 0, none⟩) (.slice A n C) (.inr (by simp))) (p := ⟨w.heap.size + 1, 1, none⟩) (.slice none 0 0) (.inr (by simp))) (p := ⟨w.heap.size + 1, 2, none⟩) (.bool dd) (.inr (by simp)))
      clear o1 o2 h1 h2 g1 g2 x y gr x1 y1 hDN HD1
      go_wp2
      exact bodyPost_ret (v := .agg #[.slice A n C, .slice none 0 0, .bool dd]) (by simp [results, Try.results87, go_sem, f0, f1, f2]) rfl ⟨rfl, by rw [HKD.out]; exact HD2.out, HG.out, grownS_below HK.out HG.out HA.out hKs⟩
end Go.Proofs.Ytldgpkaecfgagaa
