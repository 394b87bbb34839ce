/- The walks of the reference's Cut and Crash of layer 5. -/
import Derived.Test.YtldgpkaecfgagaaRefEB
import Derived.Test.YtldgpkaecfgagaaRefDF
import Derived.Test.YtldgpkaecfgagaaDiskW
import Derived.Test.YtldgpkaecfgagaaRefDH
namespace Go.Proofs.Ytldgpkaecfgagaa
open Go.RowKit PolyM PackM FoldM DevM

/-- What these headers lead to stands below K, or in blocks of bytes. -/
def Mix (K : Nat) (w : World) (vs : List Value) : Prop := ∀ v ∈ vs, ∀ (x : Addr) (L C : Nat), v = .slice (some x) L C → 0 < L → x.block < w.heap.size ∧ (x.block < K ∨ ∃ cs, w.heap[x.block]? = some (.cells cs 5 (0, 0)))
theorem Mix.nil (K : Nat) (w : World) : Mix K w [] := fun _v h => absurd h List.not_mem_nil
theorem Mix.below {K : Nat} {w w' : World} {vs : List Value} (h : Mix K w vs) (hb : Below w.heap.size w w') : Mix K w' vs := by
  intro v hv x L C e h0
  obtain ⟨q0, q⟩ := h v hv x L C e h0
  refine ⟨Nat.lt_of_lt_of_le q0 hb.size, q.imp id ?_⟩
  rintro ⟨cs, q2⟩
  exact ⟨cs, by rw [hb.block _ (heap_lt q2)]; exact q2⟩
theorem Mix.setCell {K : Nat} {w : World} {vs : List Value} (h : Mix K w vs) (p : Addr) (u : Value) : Mix K (w.setCell p u) vs := by
  intro v hv x L C e h0
  obtain ⟨q0, q1⟩ := h v hv x L C e h0
  refine ⟨by simpa using q0, q1.imp id ?_⟩
  rintro ⟨cs, q2⟩
  by_cases q : x.block = p.block
  · rw [q] at q2 ⊢
    simp only [World.setCell, Array.getElem?_modify, if_true, q2, Option.map_some]
    exact ⟨_, rfl⟩
  · exact ⟨cs, by rw [Below.heap_setCell _ _ _ _ q]; exact q2⟩
theorem Mix.grown {K : Nat} {w w' : World} {vs : List Value} {r : Option Nat} (h : Mix K w vs) (hg : w.grownBy w' r) (hr : ∀ (b : Nat) (cs : Array Value), w.heap[b]? = some (.cells cs 5 (0, 0)) → some b ≠ r) (hs : w.heap.size ≤ w'.heap.size) : Mix K w' vs := by
  intro v hv x L C e h0
  obtain ⟨q0, q⟩ := h v hv x L C e h0
  refine ⟨Nat.lt_of_lt_of_le q0 hs, q.imp id ?_⟩
  rintro ⟨cs, q2⟩
  exact ⟨cs, by rw [hg.block _ (heap_lt q2) (hr _ _ q2)]; exact q2⟩
theorem Mix.off {K : Nat} {w : World} {vs : List Value} (h : Mix K w vs) {r : Option Nat} (hk : ∀ b, r = some b → K ≤ b) (hr : ∀ (b : Nat) (cs : Array Value), w.heap[b]? = some (.cells cs 5 (0, 0)) → some b ≠ r) : ∀ v ∈ vs, ∀ ad L C, v = Value.slice (some ad) L C → 0 < L → some ad.block ≠ r := by
  intro v hv ad L C e h0
  obtain ⟨_, q | ⟨cs, q2⟩⟩ := h v hv ad L C e h0
  · intro e2
    have := hk _ e2.symm
    omega
  · exact hr _ _ q2
theorem Mix.set {K : Nat} {w : World} {vs : List Value} (h : Mix K w vs) {u : Value} (g : Mix K w [u]) (k : Nat) : Mix K w (vs.set k u) := by
  intro v hv
  rcases List.mem_or_eq_of_mem_set hv with q | q
  · exact h v q
  · exact g v (by rw [q]; exact List.mem_singleton.2 rfl)
theorem High.mix {K B : Nat} {w : World} {vs : List Value} (h : High B w vs) : Mix K w vs := fun v hv x L C e h0 => ⟨by obtain ⟨_, cs, q⟩ := h v hv x L C e h0; exact heap_lt q, .inr (h v hv x L C e h0).2⟩
/-- What a slice of the call's parameters holds. -/
theorem Hdrs.mix {w : World} {hs : List Value} {ls : List (List Int)} (h : Hdrs w hs ls) : Mix w.heap.size w hs := by
  intro v hv x L C e h0
  obtain ⟨i, hi, rfl⟩ := List.mem_iff_getElem.1 hv
  obtain ⟨A', L', C2, zs, q1, q2, q3⟩ := h.2 i _ (List.getElem?_eq_getElem hi)
  rw [q2] at e
  cases e
  have := cap_one (C := C) q3 _ (List.mem_singleton.2 rfl) x L C rfl h0
  exact ⟨this, .inl this⟩
theorem Mix.after {K : Nat} {w w' : World} {vs : List Value} (h : Mix K w vs) (hb : Below w.heap.size w w') (hK : w.heap.size ≤ K) : Mix K w' vs := fun v hv x L C e h0 => ⟨Nat.lt_of_lt_of_le (h v hv x L C e h0).1 hb.size, .inl (Nat.lt_of_lt_of_le (h v hv x L C e h0).1 hK)⟩

/-- A device whose row of blocks is the call's own, and nothing waits on it. -/
def DevM (K : Nat) (w : World) (v : Value) (d : Dev) : Prop :=
  ∃ (A : Option Addr) (n C : Nat) (hs : List Value), v = .agg #[.slice A n C, .slice none 0 0, .bool d.dead] ∧ w.ownsRow K 29 1 (.slice A n C) n hs ∧ Hdrs w hs d.blocks ∧ Mix K w hs ∧ n ≤ 9223372036854775807 ∧ d.wait = []
theorem DevM.below {K : Nat} {w w' : World} {v : Value} {d : Dev} (h : DevM K w v d) (hb : Below w.heap.size w w') : DevM K w' v d := by
  obtain ⟨A, n, C, hs, e, o1, h1, g1, m1, m2⟩ := h
  exact ⟨A, n, C, hs, e, own_below o1 hb, h1.below hb (Nat.le_refl _), g1.below hb, m1, m2⟩
theorem DevM.grownOwn {K : Nat} {w w' : World} {v u : Value} {d : Dev} {n : Nat} {hs0 : List Value} (h : DevM K w v d) (hg : w.grownBy w' u.ownBlock) (own : w.ownsRow K 25 3 u n hs0) : DevM K w' v d := by
  obtain ⟨A1, n1, C1, hs, e, o1, h1, g1, m1, m2⟩ := h
  have kind : ∀ (b : Nat) (cs : Array Value), w.heap[b]? = some (.cells cs 5 (0, 0)) → some b ≠ u.ownBlock := fun b cs hb => own_kind own hb (by decide)
  exact ⟨A1, n1, C1, hs, e, own_grown o1 hg fun q hq e => own_apart o1 own (by decide) hq e.symm, h1.grownH hg (g1.off (fun b e => (own_lt own e).2) kind), g1.grown hg kind hg.size, m1, m2⟩
theorem DevM.devV {K : Nat} {w : World} {v : Value} {d : Dev} (h : DevM K w v d) : DevV w v d := by
  obtain ⟨A, n, C, hs, e, o1, h1, g1, m1, m2⟩ := h
  obtain ⟨_, _, e2, _, ro, _⟩ := own_form o1
  cases e2
  exact ⟨A, n, C, hs, none, 0, 0, [], e, Slab.ofRow ro h1 m1, by rw [m2]; exact ⟨⟨rfl, .inl rfl⟩, by omega, Waits.nil _⟩⟩
def EntM (K : Nat) (w : World) (hs : List Value) (i : Nat) (d : Dev) : Prop :=
  ∃ (A : Option Addr) (n C : Nat), hs[i * 3]? = some (.slice A n C) ∧ hs[i * 3 + 1]? = some (.slice none 0 0) ∧ hs[i * 3 + 2]? = some (.bool d.dead) ∧ DevM K w (.agg #[.slice A n C, .slice none 0 0, .bool d.dead]) d
structure OutM (K : Nat) (w : World) (v : Value) (n : Nat) (hs : List Value) (ds : List Dev) : Prop where
  own : w.ownsRow K 25 3 v n hs
  len : ds.length = n
  each : ∀ i d, ds[i]? = some d → EntM K w hs i d
theorem OutM.below {K : Nat} {w w' : World} {v : Value} {n : Nat} {hs : List Value} {ds : List Dev} (h : OutM K w v n hs ds) (hb : Below w.heap.size w w') : OutM K w' v n hs ds := by
  refine ⟨own_below h.own hb, h.len, fun i d hd => ?_⟩
  obtain ⟨A, l, C', q0, q1, q2, q3⟩ := h.each i d hd
  exact ⟨A, l, C', q0, q1, q2, q3.below hb⟩
theorem OutM.nil (K : Nat) (w : World) : OutM K w (.slice none 0 0) 0 [] [] := ⟨World.ownsRow_nil _ _ _ _, rfl, fun i d h => by simp at h⟩
theorem OutM.push {K : Nat} {W w6 : World} {v v' : Value} {n : Nat} {hs : List Value} {ds : List Dev} {A : Option Addr} {l C' : Nat} {d : Dev} {dd : Bool} (hdd : d.dead = dd) (h : OutM K W v n hs ds) (hN : DevM K W (.agg #[.slice A l C', .slice none 0 0, .bool dd]) d) (o6 : w6.ownsRow K 25 3 v' (n + 1) (hs ++ [.slice A l C', .slice none 0 0, .bool dd])) (hg : W.grownBy w6 v.ownBlock) : OutM K w6 v' (n + 1) (hs ++ [.slice A l C', .slice none 0 0, .bool dd]) (ds ++ [d]) := by
  subst hdd
  have hl := h.own.1
  refine ⟨o6, by rw [List.length_append, h.len]; rfl, fun i e he => ?_⟩
  rcases Nat.lt_or_ge i ds.length with q | q
  · rw [List.getElem?_append_left q] at he
    obtain ⟨A0, l0, C0, q0, q1, q2, q3⟩ := h.each i e he
    have := h.len
    exact ⟨A0, l0, C0, by rw [List.getElem?_append_left (by omega)]; exact q0, by rw [List.getElem?_append_left (by omega)]; exact q1, by rw [List.getElem?_append_left (by omega)]; exact q2, q3.grownOwn hg h.own⟩
  · rw [List.getElem?_append_right q] at he
    have hi : i = ds.length := by have := (List.getElem?_eq_some_iff.1 he).1; simp at this; omega
    subst hi
    simp at he
    subst he
    have := h.len
    refine ⟨A, l, C', ?_, ?_, ?_, hN.grownOwn hg h.own⟩
    · rw [List.getElem?_append_right (by omega), show ds.length * 3 - hs.length = 0 by omega]; rfl
    · rw [List.getElem?_append_right (by omega), show ds.length * 3 + 1 - hs.length = 1 by omega]; rfl
    · rw [List.getElem?_append_right (by omega), show ds.length * 3 + 2 - hs.length = 2 by omega]; rfl
theorem OutM.slab {K : Nat} {w : World} {v : Value} {n : Nat} {hs : List Value} {ds : List Dev} (h : OutM K w v n hs ds) (hm : n ≤ 9223372036854775807) : ∃ a C, v = .slice a n C ∧ DSlab w a n hs ds := by
  obtain ⟨A, C', rfl, _, ro, _⟩ := own_form h.own
  refine ⟨A, C', rfl, ro, hm, by rw [h.len]; exact h.own.1, fun i d hd => ?_⟩
  obtain ⟨A0, n0, C0, p0, p1, p2, pN⟩ := h.each i d hd
  exact ⟨A0, n0, C0, none, 0, 0, p0, p1, p2, pN.devV⟩

/-- A device behind a power cut, as the reference writes it. -/
def cutD (d : Dev) (bs : List Bool) : Dev := ⟨keptB d.blocks ((d.wait.map fullW).zip bs), [], d.dead⟩
def cutL : List Dev → List Bool → List Dev
  | [], _ => []
  | d :: ds, bs => cutD d (bs.take d.wait.length) :: cutL ds (bs.drop d.wait.length)
theorem cutL_len : ∀ (ds : List Dev) (bs : List Bool), (cutL ds bs).length = ds.length
  | [], _ => rfl
  | d :: ds, bs => by simp only [cutL, List.length_cons, cutL_len ds]
theorem cutL_snoc : ∀ (l : List Dev) (d : Dev) (bs : List Bool), cutL (l ++ [d]) bs = cutL l bs ++ [cutD d ((bs.drop (manyL l)).take d.wait.length)]
  | [], d, bs => by simp [cutL, manyL]
  | e :: l, d, bs => by
    simp only [List.cons_append, cutL, cutL_snoc l d]
    rw [List.drop_drop]
    simp [manyL]
/-- What holds while the marks are gone through. -/
def CutS (K : Nat) (w : World) (A : Option Addr) (n C : Nat) (dd : Bool) (bl : List (List Int)) (wr : World) : Prop :=
  ∃ hs, wr.ownsRow w.heap.size 29 1 (.slice A n C) n hs ∧ Hdrs wr hs bl ∧ Mix K wr hs ∧ BoxD wr w.heap.size (.slice A n C) (.slice none 0 0) (.bool dd) ∧ Below w.heap.size w wr
theorem CutS.below {K : Nat} {w : World} {A : Option Addr} {n C : Nat} {dd : Bool} {bl : List (List Int)} {wr wr' : World} (h : CutS K w A n C dd bl wr) (hb : Below wr.heap.size wr wr') : CutS K w A n C dd bl wr' := by
  obtain ⟨hs, o, h1, g1, x, b⟩ := h
  exact ⟨hs, own_below o hb, h1.below hb (Nat.le_refl _), g1.below hb, x.below hb, b.trans (hb.mono b.size)⟩
theorem CutS.set {K : Nat} {w : World} {g n C : Nat} {dd : Bool} {bl : List (List Int)} {wr : World} (h : CutS K w (some ⟨g, 0, none⟩) n C dd bl wr) {i : Nat} (hi : i < n) {A5 : Option Addr} {L5 C5 B : Nat} {zs : List Int} (hI : Ints .u8 wr A5 L5 zs) (hH : High B wr [.slice A5 L5 C5]) :
    CutS K w (some ⟨g, 0, none⟩) n C dd (bl.set i zs) (wr.setCell ⟨g, i, none⟩ (.slice A5 L5 C5)) := by
  obtain ⟨hs, o, h1, g1, x, b⟩ := h
  have hlen : hs.length = n := by have := o.1; omega
  have hc := own_cell (k := i) o (List.getElem?_eq_getElem (by omega))
  obtain ⟨A0, L0, C0, z0, _, p2, _⟩ := h1.2 i _ (List.getElem?_eq_getElem (by omega))
  rw [p2] at hc
  have hne : ∀ q, Value.slice A0 L0 C0 ≠ .int .u8 q := by intro q; simp
  refine ⟨hs.set i (.slice A5 L5 C5), own_set o _, (h1.setOther hc.1 hne).set i (hI.setOther hc.1 hne), (g1.setCell _ _).set (hH.mix.setCell _ _) _, x.other ?_ _, b.setCell (by exact (own_lt o rfl).2) _⟩
  intro e
  exact own_box o x (by decide) (by rw [e]; rfl)
theorem CutS.header {K : Nat} {w : World} {A : Option Addr} {n C : Nat} {dd : Bool} {bl : List (List Int)} {wr : World} (h : CutS K w A n C dd bl wr) {i : Nat} (hi : i < n) :
    ∃ g A' L' C', A = some ⟨g, 0, none⟩ ∧ wr.cell? ⟨g, i, none⟩ = some (.slice A' L' C') ∧ wr.frozen? ⟨g, i, none⟩ = false := by
  obtain ⟨hs, o, h1, g1, x, b⟩ := h
  obtain ⟨g, C1, e, _, _⟩ := own_head o (by omega)
  cases e
  have hlen : hs.length = n := by have := o.1; omega
  have hc := own_cell (k := i) o (List.getElem?_eq_getElem (by omega))
  obtain ⟨A0, L0, C0, z0, _, p2, _⟩ := h1.2 i _ (List.getElem?_eq_getElem (by omega))
  rw [p2] at hc
  exact ⟨g, A0, L0, C0, rfl, hc.1, hc.2⟩
theorem CutS.dev {K : Nat} {w : World} {A : Option Addr} {n C : Nat} {dd : Bool} {bl : List (List Int)} {wr : World} (h : CutS K w A n C dd bl wr) (hK : K ≤ w.heap.size) (hn : n ≤ 9223372036854775807) : DevM K wr (.agg #[.slice A n C, .slice none 0 0, .bool dd]) ⟨bl, [], dd⟩ := by
  obtain ⟨hs, o, h1, g1, x, b⟩ := h
  exact ⟨A, n, C, hs, rfl, own_mono o hK, h1, g1, hn, rfl⟩

set_option maxRecDepth 100000 in
set_option maxHeartbeats 8000000 in
theorem refcut_calls (a : Option Addr) (nd c : Nat) (hd0 : List Value) (ds : List Dev) (aK : Option Addr) (nK cK : Nat) (bs bs' : List Bool) (w : World) (h : DSlab w a nd hd0 ds) (hM : MayL ds) (hk : Row w 1 aK nK (bs.map Value.bool)) (_hm : nK ≤ 1000000) (hbs : ∀ q, q < manyL ds → bs'[q]? = some (bs.getD q false)) :
    Calls Try.prog 97 #[.slice a nd c, .slice aK nK cK] w fun e w' => ∃ a' C' hs', e = .returned (.slice a' nd C') ∧ DSlab w' a' nd hs' (cutL ds bs') ∧ Below w.heap.size w w' := by
  obtain ⟨i0, hi0, hz0, hz1, hz2⟩ := info_parts disk_info
  obtain ⟨j0, hj0, jz0, jz1, jz2⟩ := info_parts hdr_info
  have hl := Lib.hid h.len
  have hnd : nd ≤ 17 := by have := h.len; have := hM.2.1; omega
  have hW : manyL ds ≤ 17408 := by
    have t1 := manyL_le (l := ds) fun x hx => (hM.2.2 x hx).2.2.1
    have := hM.2.1
    omega
  have hbl : bs.length = nK := by have := hk.1; simpa using this
  have HBL := Lib.hid hbl
  have HR := Lib.hid hk
  have H := Lib.hid h
  have HM := Lib.hid hM
  have HB := Lib.hid hbs
  have HW := Lib.hid hW
  clear h hk hM hbs hbl hW
  go_enter Try.func97, Try.ntmps97
  go_wp2
  go_loopw [5, 6, 7] (fun out ct iv wr => ∃ (i : Nat) (v : Value) (hs' : List Value) (q : Nat), i ≤ nd ∧ iv = .int .i64 i ∧ out = v ∧ ct = .int .i64 q ∧ q = manyL (ds.take i) ∧ OutM w.heap.size wr v i hs' (cutL (ds.take i) bs') ∧ Below w.heap.size w wr) (fun _ _ iv _ => nd - (intOf iv).toNat)
  case atStart => exact ⟨0, _, [], 0, by omega, rfl, rfl, rfl, by simp [manyL], OutM.nil _ _, Below.refl _ _⟩
  case round =>
    obtain ⟨i, v, hs', q, hi, rfl, rfl, rfl, hq, hO, hB⟩ := hrel
    obtain ⟨wo, hwo⟩ : ∃ x : World, x = wr := ⟨_, rfl⟩
    subst hwo
    by_cases hin : i < nd
    · obtain ⟨b, off, A, n, C, B, m, D, d, rfl, hd, hlt, q0, q1, q2, hv⟩ := H.out.at hin
      have hin1 : (i : Int) < (nd : Int) := by omega
      have hMd := HM.out.2.2 d (List.mem_of_getElem? hd)
      obtain ⟨hwm, hbn⟩ := dev_wait hv
      have hn1 : 0 < n := by have := hMd.1; omega
      have hn2 : n ≤ 256 := by have := hMd.2.1; omega
      have hm2 : m ≤ 1024 := by have := hMd.2.2.1; omega
      have E1 := Lib.hid (show manyL (ds.take (i + 1)) = q + m by rw [take_snocL hd, manyL_snoc, hwm, hq])
      have hqm : q + m ≤ manyL ds := by
        have t := manyL_app (ds.take (i + 1)) (ds.drop (i + 1))
        rw [List.take_append_drop] at t
        have := E1.out
        omega
      have HQ := Lib.hid hqm
      have hq17 : q + m ≤ 17408 := by have := HW.out; omega
      obtain ⟨A', n', C', hh, B', m', D', ht, e, h1, h2⟩ := hv
      simp only [Value.agg.injEq, Array.mk.injEq, List.cons.injEq, Value.slice.injEq, and_true] at e
      obtain ⟨⟨rfl, rfl, rfl⟩, rfl, rfl, rfl⟩ := e
      have HD := Lib.hid (And.intro hMd (And.intro hwm hbn))
      have c0 := (hB.cell (p := ⟨b, off + i * 3, none⟩) hlt).trans q0
      have c1 := (hB.cell (p := ⟨b, off + i * 3 + 1, none⟩) hlt).trans q1
      have c2 := (hB.cell (p := ⟨b, off + i * 3 + 2, none⟩) hlt).trans q2
      have hltr : b < wo.heap.size := Nat.lt_of_lt_of_le hlt hB.size
      have hsz := hB.size
      have HO := Lib.hid hO
      have HBB := Lib.hid hB
      have H1 := Lib.hid h1
      have H2 := Lib.hid h2
      have HCW := Lib.hid (And.intro q0 (And.intro q1 q2))
      have hdc := Lib.hid (show (cutD d ((bs'.drop q).take m)).dead = d.dead from rfl)
      have ECL := Lib.hid (show cutL (ds.take (i + 1)) bs' = cutL (ds.take i) bs' ++ [cutD d ((bs'.drop q).take m)] by rw [take_snocL hd, cutL_snoc, hwm, hq])
      have ECD := Lib.hid (show cutD d ((bs'.drop q).take m) = ⟨keptB d.blocks (((d.wait.map fullW).zip ((bs'.drop q).take m))), [], d.dead⟩ from rfl)
      clear h1 h2 hMd hwm hbn q0 q1 q2 hqm hO hB hq
      generalize hdd : d.dead = dd at *
      have HDD := Lib.hid hdd
      clear hdd
      go_upto_region 7 with fail
      generalize hw1 : wo.alloc _ = w1 at *
      have hbw1 : Below wo.heap.size wo w1 := by rw [← hw1]; exact (Below.refl _ _).alloc (Nat.le_refl _) _
      have bx : BoxD w1 wo.heap.size (.slice none 0 0) (.slice none 0 0) (.bool dd) := by rw [← hw1]; exact BoxD.new _ _ _ _
      have hs1 : w1.heap.size = wo.heap.size + 1 := by rw [← hw1]; simp
      have HH := Lib.hid (H1.out.below (HBB.out.trans (hbw1.mono hsz)) (Nat.le_refl _))
      have HMX := Lib.hid (H1.out.each.mix.below (HBB.out.trans (hbw1.mono hsz)))
      have HK : Hid (∀ W, Below wo.heap.size wo W → W.cell? ⟨b, off + i * 3, none⟩ = some (.slice A n C)) := Lib.hid fun W hW => (hW.cell (p := ⟨b, off + i * 3, none⟩) hltr).trans c0
      have e0 := bx.c0
      clear c0 c1 c2 hw1
      refine wp_region_held_drew (S := (fun W => W.cell? ⟨b, off + i * 3, none⟩ = some (.slice A n C))) (by kernel_rfl) ?_ (fun hHeld => ?_)
      · exact HK.out _ (hbw1.trans ((Below.refl _ _).drew.mono hbw1.size))
      refine wpAnyH_take (i := 0) (v := ?_) rfl (by kernel_rfl) (by kernel_rfl) (by kernel_rfl) (fun _ _ _ h => h) (Or.inl ⟨by rfl, ?_⟩) hHeld ?_
      rotate_left
      · (intro w hSw; (try dsimp only at hSw); go_simp; try with_reducible rfl)
      try simp only [Act.put, List.getElem_toArray, List.getElem_cons_zero, List.setIfInBounds_toArray, List.set_cons_zero, List.set_cons_succ]
      refine wpAnyH_take (i := 2) (v := ?_) rfl (by kernel_rfl) (by kernel_rfl) (by kernel_rfl) (fun _ _ _ h => h) (Or.inl ⟨by rfl, ?_⟩) hHeld ?_
      rotate_left
      · (intro w hSw; (try dsimp only at hSw); go_simp; try with_reducible rfl)
      try simp only [Act.put, List.getElem_toArray, List.getElem_cons_zero, List.getElem_cons_succ, List.setIfInBounds_toArray, List.set_cons_zero, List.set_cons_succ]
      refine wpAnyH_take (i := 3) (v := ?_) rfl (by kernel_rfl) (by kernel_rfl) (by kernel_rfl) (fun _ _ _ h => h) (Or.inl ⟨by rfl, ?_⟩) hHeld ?_
      rotate_left
      · (intro w hSw; (try dsimp only at hSw); go_simp; try with_reducible rfl)
      try simp only [Act.put, List.getElem_toArray, List.getElem_cons_zero, List.getElem_cons_succ, List.setIfInBounds_toArray, List.set_cons_zero, List.set_cons_succ]
      refine wpAnyH_take (i := 4) (v := ?_) rfl (by kernel_rfl) (by kernel_rfl) (by kernel_rfl) (fun _ _ _ h => h) (Or.inl ⟨by rfl, ?_⟩) hHeld ?_
      rotate_left
      · (intro w hSw; (try dsimp only at hSw); go_simp; try with_reducible rfl)
      try simp only [Act.put, List.getElem_toArray, List.getElem_cons_zero, List.getElem_cons_succ, List.setIfInBounds_toArray, List.set_cons_zero, List.set_cons_succ]
      refine wpAnyH_take (i := 5) (v := ?_) rfl (by kernel_rfl) (by kernel_rfl) (by kernel_rfl) (fun _ _ _ h => h) (Or.inl ⟨by rfl, ?_⟩) hHeld ?_
      rotate_left
      · (intro w hSw; (try dsimp only at hSw); go_simp; try with_reducible rfl)
      try simp only [Act.put, List.getElem_toArray, List.getElem_cons_zero, List.getElem_cons_succ, List.setIfInBounds_toArray, List.set_cons_zero, List.set_cons_succ]
      refine wpAnyH_take (i := 6) (v := ?_) rfl (by kernel_rfl) (by kernel_rfl) (by kernel_rfl) (fun _ _ _ h => h) (Or.inl ⟨by rfl, ?_⟩) hHeld ?_
      rotate_left
      · (intro w hSw; (try dsimp only at hSw); go_simp; try with_reducible rfl)
      try simp only [Act.put, List.getElem_toArray, List.getElem_cons_zero, List.getElem_cons_succ, List.setIfInBounds_toArray, List.set_cons_zero, List.set_cons_succ]
      refine wpAnyH_ready (rs := [1]) (by kernel_rfl) (by simp) ?_
      refine AllReadyH.cons rfl (fun K hK => ?_) AllReadyH.nil
      go_simp
      refine hK.out _ _ ?_ (fun hHeld2 => ?_)
      · exact HK.out _ (hbw1.trans ((Below.refl _ _).drew.mono hbw1.size))
      clear hK K hHeld
      have hHeld := hHeld2
      clear hHeld2
      try simp only [Act.put, List.setIfInBounds_toArray, List.set_cons_zero, List.set_cons_succ]
      refine wpAnyH_ready (rs := [7]) (by kernel_rfl) (by simp) ?_
      refine AllReadyH.cons rfl (fun K hK => ?_) AllReadyH.nil
      refine step_append_row (by rfl) _ _ _ (by rfl) wo.heap.size 29 j0 _ 1 24 Try.underlying22 hj0 jz0 jz1 jz2 rfl (by omega) (.slice none 0 0) 0 [] (by rfl) (World.ownsRow_nil _ _ _ _) A n C hh (by rfl) (HH.out.row.below ((Below.refl _ _).drew) (Nat.le_refl _)) HH.out.each.one_cell (by simp only [maxLen]; omega) (by omega) (hbw1.trans ((Below.refl _ _).drew.mono hbw1.size)).size ?_
      intro v5 w5 hown5 hgrow5
      simp only [Nat.zero_add, List.nil_append] at hown5
      have hb5 : Below w1.heap.size w1 w5 := ((Below.refl _ _).drew).grown hgrow5 (by simp) (by intro k hk; simp [Value.ownBlock] at hk)
      have hb5o := hbw1.trans (hb5.mono hbw1.size)
      obtain ⟨g, C5, rfl, hg5, hg6⟩ := own_head hown5 (by omega)
      refine hK.out _ _ ?_ (fun hHeld2 => ?_)
      · exact HK.out _ hb5o
      clear hK K hHeld
      have hHeld := hHeld2
      clear hHeld2
      try simp only [Act.put, List.setIfInBounds_toArray]
      refine wpAnyH_take (i := 8) (v := ?_) rfl (by kernel_rfl) (by kernel_rfl) (by kernel_rfl) (fun _ _ _ h => h) (Or.inl ⟨by rfl, ?_⟩) hHeld ?_
      rotate_left
      · (intro w hSw; (try dsimp only at hSw); go_simp; try with_reducible rfl)
      try simp only [Act.put, List.getElem_toArray, List.getElem_cons_zero, List.getElem_cons_succ, List.setIfInBounds_toArray, List.set_cons_zero, List.set_cons_succ]
      have f1 := (bx.below hb5).c0
      have f0 := (bx.below hb5).fr (o := 0)
      refine wpAnyH_ready (rs := [9]) (by kernel_rfl) (by simp) ?_
      refine AllReadyH.cons rfl (fun K hK => ?_) AllReadyH.nil
      go_simp
      refine hK.out _ _ ?_ (fun hHeld2 => ?_)
      · exact HK.out _ (hb5o.setCell (by exact Nat.le_refl _) _)
      clear hK K hHeld
      have hHeld := hHeld2
      clear hHeld2
      try simp only [Act.put, List.setIfInBounds_toArray, List.set_cons_zero, List.set_cons_succ]
      refine wpAnyH_done (by kernel_rfl) ?_ _
      have HS0 : Hid (CutS w.heap.size wo (some ⟨g, 0, none⟩) n C5 dd d.blocks (w5.setCell ⟨wo.heap.size, 0, none⟩ (.slice (some ⟨g, 0, none⟩) n C5))) := Lib.hid ⟨hh, own_other hown5 (own_box hown5 (bx.below hb5) (by decide)) _, (HH.out.each.below hb5 (Nat.le_refl _)).setOther (bx.below hb5).c0 (by intro q; simp), (HMX.out.below hb5).setCell _ _, (bx.below hb5).s0 _, hb5o.setCell (by exact Nat.le_refl _) _⟩
      clear hHeld f0 f1 HK e0 hown5 hgrow5 hb5 hb5o bx hbw1 HMX HH
      generalize w5.setCell ⟨wo.heap.size, 0, none⟩ (.slice (some ⟨g, 0, none⟩) n C5) = w7 at *
      generalize hzz : (d.wait.map fullW).zip ((bs'.drop q).take m) = zz at *
      have HZ := Lib.hid hzz
      clear hzz
      go_wp2_with fail
      go_loopw [6, 9] (fun ct kv wx => ∃ (k q' : Nat), k ≤ m ∧ kv = .int .i64 k ∧ ct = .int .i64 q' ∧ q' = q + k ∧ CutS w.heap.size wo (some ⟨g, 0, none⟩) n C5 dd (keptB d.blocks (zz.take k)) wx) (fun _ kv _ => m - (intOf kv).toNat)
      case atStart => exact ⟨0, q, by omega, rfl, rfl, by omega, HS0.out⟩
      case round =>
        obtain ⟨k, q', hk, rfl, rfl, hq', hS⟩ := hrel
        clear HS0
        have hBo : Below wo.heap.size wo wr := by
          obtain ⟨_, _, _, _, _, t⟩ := hS
          exact t
        have hBx := HBB.out.trans (hBo.mono hsz)
        have e1 := (hBx.cell (p := ⟨b, off + i * 3 + 1, none⟩) hlt).trans HCW.out.2.1
        have x3 : BoxD wr wo.heap.size (.slice (some ⟨g, 0, none⟩) n C5) (.slice none 0 0) (.bool dd) := by
          obtain ⟨_, _, _, _, t, _⟩ := hS
          exact t
        by_cases hkm : k < m
        · obtain ⟨bW, oW, A0, L0, C0, ⟨at_, dat⟩, rfl, hltW, hx, t0, t1, hwf, hI, _, _⟩ := H2.out.at hkm
          obtain ⟨p1, p2, p3⟩ := HD.out.1.2.2.2.2.2 _ (List.mem_of_getElem? hx)
          have hL0 : L0 ≤ 1000000 := by
            have hlen : dat.length = L0 := hI.len
            have hb : Blk dat := p3
            rcases hb with t | t <;> omega
          have d0 := (hBx.cell (p := ⟨bW, oW + k * 2, none⟩) hltW).trans t0
          have d1 := (hBx.cell (p := ⟨bW, oW + k * 2 + 1, none⟩) hltW).trans t1
          obtain ⟨j, rfl⟩ : ∃ t : Nat, at_ = (t : Int) := ⟨at_.toNat, by simp only at p1; omega⟩
          have hjn : j < n := by have := HD.out.2.2; simp only at p2; omega
          have hjn1 : (j : Int) < (n : Int) := by omega
          have hkm1 : (k : Int) < (m : Int) := by omega
          have hx0 := x3.c0
          have hbm := HB.out q' (by have := HQ.out; omega)
          have hzk : ∀ mk, bs.getD q' false = mk → zz[k]? = some (((j : Int), fullD dat), mk) := by
            rintro mk rfl
            rw [← HZ.out, List.getElem?_zip_eq_some]
            refine ⟨by rw [List.getElem?_map, hx]; rfl, ?_⟩
            rw [List.getElem?_take, if_pos hkm, List.getElem?_drop, ← hq']
            exact hbm
          have HZK := Lib.hid hzk
          have HS := Lib.hid hS
          have cf := fun W (hW : Below wr.heap.size wr W) => reffull_calls A0 L0 C0 dat W (hI.below (hBx.trans (hW.mono hBx.size)) (Nat.le_refl _)) hL0
          have hcM : ∀ mk : Bool, q' < nK → bs.getD q' false = mk → ∃ bM oM, aK = some ⟨bM, oM, none⟩ ∧ bM < wr.heap.size ∧ wr.cell? ⟨bM, oM + q', none⟩ = some (.bool mk) := by
            rintro mk hlt1 rfl
            rcases HR.out.2 with t | ⟨bM, oM, t1, t2, t3⟩
            · omega
            · refine ⟨bM, oM, t1, Nat.lt_of_lt_of_le t2 hBx.size, (hBx.cell (p := ⟨bM, oM + q', none⟩) t2).trans (t3 q' _ ?_)⟩
              rw [List.getElem?_map, List.getElem?_eq_getElem (by have := HBL.out; omega), List.getD_eq_getElem?_getD, List.getElem?_eq_getElem (by have := HBL.out; omega)]
              rfl
          have HKS : Hid (∀ (bl : List (List Int)) (W : World), CutS w.heap.size wo (some ⟨g, 0, none⟩) n C5 dd bl W → W.cell? ⟨wo.heap.size, 0, none⟩ = some (.slice (some ⟨g, 0, none⟩) n C5) ∧ W.cell? ⟨b, off + i * 3 + 1, none⟩ = some (.slice (some ⟨bW, oW, none⟩) m D) ∧ W.cell? ⟨bW, oW + k * 2, none⟩ = some (.int .i64 (j : Int)) ∧ W.cell? ⟨bW, oW + k * 2 + 1, none⟩ = some (.slice A0 L0 C0)) := Lib.hid (by
            rintro bl W ⟨_, _, _, _, y3, yb⟩
            have hBy := HBB.out.trans (yb.mono hsz)
            exact ⟨y3.c0, (hBy.cell (p := ⟨b, off + i * 3 + 1, none⟩) hlt).trans HCW.out.2.1, (hBy.cell (p := ⟨bW, oW + k * 2, none⟩) hltW).trans t0, (hBy.cell (p := ⟨bW, oW + k * 2 + 1, none⟩) hltW).trans t1⟩)
          have hbs17 : q' < 17408 := by omega
          have HQ' := Lib.hid hq'
          clear hS hBo hBx t0 t1 hx hI p1 p2 p3 hbm hzk x3 hq'
          cases hmk : bs.getD q' false
          · have E2 := Lib.hid (show keptB d.blocks (zz.take (k + 1)) = keptB d.blocks (zz.take k) by
              rw [take_snocL (HZK.out _ hmk), keptB_snoc]
              exact if_neg (by simp))
            by_cases hqn : q' < nK
            · obtain ⟨bM, oM, rfl, hMlt, cM⟩ := hcM _ hqn hmk
              have hqn1 : (q' : Int) < (nK : Int) := by omega
              clear hcM hmk cf HZK
              go_wp2
              go_roundw
              case rel => exact ⟨k + 1, q' + 1, by omega, by go_num, by go_num, by have := HQ'.out; omega, by rw [E2.out]; exact HS.out⟩
              case measure => simp [intOf]; omega
            · have hqn1 : ¬ (q' : Int) < (nK : Int) := by omega
              have dq := decide_eq_false hqn1
              clear hcM hmk cf HZK
              go_wp2
              go_roundw
              case rel => exact ⟨k + 1, q' + 1, by omega, by go_num, by go_num, by have := HQ'.out; omega, by rw [E2.out]; exact HS.out⟩
              case measure => simp [intOf]; omega
          · have E2 := Lib.hid (show keptB d.blocks (zz.take (k + 1)) = (keptB d.blocks (zz.take k)).set j (fullD dat) by
              rw [take_snocL (HZK.out _ hmk), keptB_snoc]
              exact if_pos rfl)
            have hqn : q' < nK := by
              rcases Nat.lt_or_ge q' nK with t | t
              · exact t
              · rw [List.getD_eq_getElem?_getD, List.getElem?_eq_none (by have := HBL.out; omega)] at hmk
                exact absurd hmk (by simp)
            obtain ⟨bM, oM, rfl, hMlt, cM⟩ := hcM _ hqn hmk
            have hqn1 : (q' : Int) < (nK : Int) := by omega
            clear hcM hmk HZK
            go_upto_region 12 with fail
            refine wp_region_held_drew (S := (fun W => W.cell? ⟨wo.heap.size, 0, none⟩ = some (.slice (some ⟨g, 0, none⟩) n C5) ∧ W.cell? ⟨b, off + i * 3 + 1, none⟩ = some (.slice (some ⟨bW, oW, none⟩) m D) ∧ W.cell? ⟨bW, oW + k * 2, none⟩ = some (.int .i64 (j : Int)) ∧ W.cell? ⟨bW, oW + k * 2 + 1, none⟩ = some (.slice A0 L0 C0))) (by kernel_rfl) ?_ (fun hHeld => ?_)
            · exact HKS.out _ _ (HS.out.below ((Below.refl _ _).drew))
            refine wpAnyH_take (i := 0) (v := ?_) rfl (by kernel_rfl) (by kernel_rfl) (by kernel_rfl) (fun _ _ _ h => h) (Or.inl ⟨by rfl, ?_⟩) hHeld ?_
            rotate_left
            · (intro w hSw; (try dsimp only at hSw); go_simp; try with_reducible rfl)
            try simp only [Act.put, List.getElem_toArray, List.getElem_cons_zero, List.setIfInBounds_toArray, List.set_cons_zero, List.set_cons_succ]
            refine wpAnyH_take (i := 1) (v := ?_) rfl (by kernel_rfl) (by kernel_rfl) (by kernel_rfl) (fun _ _ _ h => h) (Or.inl ⟨by rfl, ?_⟩) hHeld ?_
            rotate_left
            · (intro w hSw; (try dsimp only at hSw); go_simp; try with_reducible rfl)
            try simp only [Act.put, List.getElem_toArray, List.getElem_cons_zero, List.getElem_cons_succ, List.setIfInBounds_toArray, List.set_cons_zero, List.set_cons_succ]
            refine wpAnyH_take (i := 2) (v := ?_) rfl (by kernel_rfl) (by kernel_rfl) (by kernel_rfl) (fun _ _ _ h => h) (Or.inl ⟨by rfl, ?_⟩) hHeld ?_
            rotate_left
            · (intro w hSw; (try dsimp only at hSw); go_simp; try with_reducible rfl)
            try simp only [Act.put, List.getElem_toArray, List.getElem_cons_zero, List.getElem_cons_succ, List.setIfInBounds_toArray, List.set_cons_zero, List.set_cons_succ]
            refine wpAnyH_take (i := 3) (v := ?_) rfl (by kernel_rfl) (by kernel_rfl) (by kernel_rfl) (fun _ _ _ h => h) (Or.inl ⟨by rfl, ?_⟩) hHeld ?_
            rotate_left
            · (intro w hSw; (try dsimp only at hSw); go_simp; try with_reducible rfl)
            try simp only [Act.put, List.getElem_toArray, List.getElem_cons_zero, List.getElem_cons_succ, List.setIfInBounds_toArray, List.set_cons_zero, List.set_cons_succ]
            refine wpAnyH_take (i := 4) (v := ?_) rfl (by kernel_rfl) (by kernel_rfl) (by kernel_rfl) (fun _ _ _ h => h) (Or.inl ⟨by rfl, ?_⟩) hHeld ?_
            rotate_left
            · (intro w hSw; (try dsimp only at hSw); go_simp; try with_reducible rfl)
            try simp only [Act.put, List.getElem_toArray, List.getElem_cons_zero, List.getElem_cons_succ, List.setIfInBounds_toArray, List.set_cons_zero, List.set_cons_succ]
            refine wpAnyH_take (i := 5) (v := ?_) rfl (by kernel_rfl) (by kernel_rfl) (by kernel_rfl) (fun _ _ _ h => h) (Or.inl ⟨by rfl, ?_⟩) hHeld ?_
            rotate_left
            · (intro w hSw; (try dsimp only at hSw); go_simp; try with_reducible rfl)
            try simp only [Act.put, List.getElem_toArray, List.getElem_cons_zero, List.getElem_cons_succ, List.setIfInBounds_toArray, List.set_cons_zero, List.set_cons_succ]
            refine wpAnyH_take (i := 6) (v := ?_) rfl (by kernel_rfl) (by kernel_rfl) (by kernel_rfl) (fun _ _ _ h => h) (Or.inl ⟨by rfl, ?_⟩) hHeld ?_
            rotate_left
            · (intro w hSw; (try dsimp only at hSw); go_simp; try with_reducible rfl)
            try simp only [Act.put, List.getElem_toArray, List.getElem_cons_zero, List.getElem_cons_succ, List.setIfInBounds_toArray, List.set_cons_zero, List.set_cons_succ]
            refine wpAnyH_take (i := 7) (v := ?_) rfl (by kernel_rfl) (by kernel_rfl) (by kernel_rfl) (fun _ _ _ h => h) (Or.inl ⟨by rfl, ?_⟩) hHeld ?_
            rotate_left
            · (intro w hSw; (try dsimp only at hSw); go_simp; try with_reducible rfl)
            try simp only [Act.put, List.getElem_toArray, List.getElem_cons_zero, List.getElem_cons_succ, List.setIfInBounds_toArray, List.set_cons_zero, List.set_cons_succ]
            refine wpAnyH_take (i := 8) (v := ?_) rfl (by kernel_rfl) (by kernel_rfl) (by kernel_rfl) (fun _ _ _ h => h) (Or.inl ⟨by rfl, ?_⟩) hHeld ?_
            rotate_left
            · (intro w hSw; (try dsimp only at hSw); go_simp; try with_reducible rfl)
            try simp only [Act.put, List.getElem_toArray, List.getElem_cons_zero, List.getElem_cons_succ, List.setIfInBounds_toArray, List.set_cons_zero, List.set_cons_succ]
            refine wpAnyH_take (i := 9) (v := ?_) rfl (by kernel_rfl) (by kernel_rfl) (by kernel_rfl) (fun _ _ _ h => h) (Or.inl ⟨by rfl, ?_⟩) hHeld ?_
            rotate_left
            · (intro w hSw; (try dsimp only at hSw); go_simp; try with_reducible rfl)
            try simp only [Act.put, List.getElem_toArray, List.getElem_cons_zero, List.getElem_cons_succ, List.setIfInBounds_toArray, List.set_cons_zero, List.set_cons_succ]
            refine wpAnyH_take (i := 10) (v := ?_) rfl (by kernel_rfl) (by kernel_rfl) (by kernel_rfl) (fun _ _ _ h => h) (Or.inl ⟨by rfl, ?_⟩) hHeld ?_
            rotate_left
            · (intro w hSw; (try dsimp only at hSw); go_simp; try with_reducible rfl)
            try simp only [Act.put, List.getElem_toArray, List.getElem_cons_zero, List.getElem_cons_succ, List.setIfInBounds_toArray, List.set_cons_zero, List.set_cons_succ]
            refine wpAnyH_take (i := 11) (v := ?_) rfl (by kernel_rfl) (by kernel_rfl) (by kernel_rfl) (fun _ _ _ h => h) (Or.inl ⟨by rfl, ?_⟩) hHeld ?_
            rotate_left
            · (intro w hSw; (try dsimp only at hSw); go_simp; try with_reducible rfl)
            try simp only [Act.put, List.getElem_toArray, List.getElem_cons_zero, List.getElem_cons_succ, List.setIfInBounds_toArray, List.set_cons_zero, List.set_cons_succ]
            refine wpAnyH_take (i := 12) (v := ?_) rfl (by kernel_rfl) (by kernel_rfl) (by kernel_rfl) (fun _ _ _ h => h) (Or.inl ⟨by rfl, ?_⟩) hHeld ?_
            rotate_left
            · (intro w hSw; (try dsimp only at hSw); go_simp; try with_reducible rfl)
            try simp only [Act.put, List.getElem_toArray, List.getElem_cons_zero, List.getElem_cons_succ, List.setIfInBounds_toArray, List.set_cons_zero, List.set_cons_succ]
            refine wpAnyH_take (i := 13) (v := ?_) rfl (by kernel_rfl) (by kernel_rfl) (by kernel_rfl) (fun _ _ _ h => h) (Or.inl ⟨by rfl, ?_⟩) hHeld ?_
            rotate_left
            · (intro w hSw; (try dsimp only at hSw); go_simp; try with_reducible rfl)
            try simp only [Act.put, List.getElem_toArray, List.getElem_cons_zero, List.getElem_cons_succ, List.setIfInBounds_toArray, List.set_cons_zero, List.set_cons_succ]
            refine wpAnyH_take (i := 14) (v := ?_) rfl (by kernel_rfl) (by kernel_rfl) (by kernel_rfl) (fun _ _ _ h => h) (Or.inl ⟨by rfl, ?_⟩) hHeld ?_
            rotate_left
            · (intro w hSw; (try dsimp only at hSw); go_simp; try with_reducible rfl)
            try simp only [Act.put, List.getElem_toArray, List.getElem_cons_zero, List.getElem_cons_succ, List.setIfInBounds_toArray, List.set_cons_zero, List.set_cons_succ]
            refine wpAnyH_take (i := 15) (v := ?_) rfl (by kernel_rfl) (by kernel_rfl) (by kernel_rfl) (fun _ _ _ h => h) (Or.inl ⟨by rfl, ?_⟩) hHeld ?_
            rotate_left
            · (intro w hSw; (try dsimp only at hSw); go_simp; try with_reducible rfl)
            try simp only [Act.put, List.getElem_toArray, List.getElem_cons_zero, List.getElem_cons_succ, List.setIfInBounds_toArray, List.set_cons_zero, List.set_cons_succ]
            refine wpAnyH_take (i := 16) (v := ?_) rfl (by kernel_rfl) (by kernel_rfl) (by kernel_rfl) (fun _ _ _ h => h) (Or.inl ⟨by rfl, ?_⟩) hHeld ?_
            rotate_left
            · (intro w hSw; (try dsimp only at hSw); go_simp; try with_reducible rfl)
            try simp only [Act.put, List.getElem_toArray, List.getElem_cons_zero, List.getElem_cons_succ, List.setIfInBounds_toArray, List.set_cons_zero, List.set_cons_succ]
            refine wpAnyH_take (i := 17) (v := ?_) rfl (by kernel_rfl) (by kernel_rfl) (by kernel_rfl) (fun _ _ _ h => h) (Or.inl ⟨by rfl, ?_⟩) hHeld ?_
            rotate_left
            · (intro w hSw; (try dsimp only at hSw); go_simp; try with_reducible rfl)
            try simp only [Act.put, List.getElem_toArray, List.getElem_cons_zero, List.getElem_cons_succ, List.setIfInBounds_toArray, List.set_cons_zero, List.set_cons_succ]
            refine wpAnyH_take (i := 18) (v := ?_) rfl (by kernel_rfl) (by kernel_rfl) (by kernel_rfl) (fun _ _ _ h => h) (Or.inl ⟨by rfl, ?_⟩) hHeld ?_
            rotate_left
            · (intro w hSw; (try dsimp only at hSw); go_simp; try with_reducible rfl)
            try simp only [Act.put, List.getElem_toArray, List.getElem_cons_zero, List.getElem_cons_succ, List.setIfInBounds_toArray, List.set_cons_zero, List.set_cons_succ]
            refine wpAnyH_take (i := 19) (v := ?_) rfl (by kernel_rfl) (by kernel_rfl) (by kernel_rfl) (fun _ _ _ h => h) (Or.inl ⟨by rfl, ?_⟩) hHeld ?_
            rotate_left
            · (intro w hSw; (try dsimp only at hSw); go_simp; try with_reducible rfl)
            try simp only [Act.put, List.getElem_toArray, List.getElem_cons_zero, List.getElem_cons_succ, List.setIfInBounds_toArray, List.set_cons_zero, List.set_cons_succ]
            refine wpAnyH_ready (rs := [20]) (by kernel_rfl) (by simp) ?_
            refine AllReadyH.cons rfl (fun K hK => ?_) AllReadyH.nil
            go_simp
            (with_reducible refine (cf _ ((Below.refl _ _).drew)).mono ?_)
            rintro e w6 ⟨A5, L5, C6, rfl, hF0, hb60⟩
            have hb6 : Below wr.heap.size wr w6 := (Below.refl _ _).drew.trans (hb60.mono (Nat.le_refl _))
            have hF := Lib.hid hF0
            clear hb60 hF0
            go_wp2_with fail
            refine hK.out _ _ ?_ (fun hHeld2 => ?_)
            · exact HKS.out _ _ (HS.out.below hb6)
            clear hK K hHeld
            have hHeld := hHeld2
            clear hHeld2
            try simp only [Act.put, List.setIfInBounds_toArray, List.set_cons_zero, List.set_cons_succ]
            refine wpAnyH_take (i := 21) (v := ?_) rfl (by kernel_rfl) (by kernel_rfl) (by kernel_rfl) (fun _ _ _ h => h) (Or.inl ⟨by rfl, ?_⟩) hHeld ?_
            rotate_left
            · (intro w hSw; (try dsimp only at hSw); go_simp; try with_reducible rfl)
            try simp only [Act.put, List.getElem_toArray, List.getElem_cons_zero, List.getElem_cons_succ, List.setIfInBounds_toArray, List.set_cons_zero, List.set_cons_succ]
            have HS6 := HS.out.below hb6
            obtain ⟨g', A7, L7, C7, e7, y0, y1⟩ := HS6.header hjn
            injection e7 with e7
            injection e7 with e7 _ _
            subst e7
            have HS9 : Hid (CutS w.heap.size wo (some ⟨g, 0, none⟩) n C5 dd (keptB d.blocks (zz.take (k + 1))) (w6.setCell ⟨g, j, none⟩ (.slice A5 L5 C6))) := Lib.hid (by
              obtain ⟨A8, L8, C8, e8, f1, f2⟩ := hF.out
              cases e8
              rw [E2.out]
              exact HS6.set hjn f1 f2)
            refine wpAnyH_ready (rs := [22]) (by kernel_rfl) (by simp) ?_
            refine AllReadyH.cons rfl (fun K hK => ?_) AllReadyH.nil
            go_simp
            refine hK.out _ _ ?_ (fun hHeld2 => ?_)
            · exact HKS.out _ _ HS9.out
            clear hK K hHeld
            have hHeld := hHeld2
            clear hHeld2
            try simp only [Act.put, List.setIfInBounds_toArray, List.set_cons_zero, List.set_cons_succ]
            refine wpAnyH_done (by kernel_rfl) ?_ _
            clear hHeld y0 y1 HS6 hF
            go_wp2_with fail
            go_roundw
            case rel => exact ⟨k + 1, q' + 1, by omega, by go_num, by go_num, by have := HQ'.out; omega, HS9.out⟩
            case measure => simp [intOf]; omega
        · obtain rfl : m = k := by omega
          have EB := Lib.hid (show cutD d ((bs'.drop q).take m) = ⟨keptB d.blocks (zz.take m), [], dd⟩ by
            rw [ECD.out, List.take_of_length_le (by rw [← HZ.out, List.length_zip, List.length_map]; have := HD.out.2.1; omega)])
          have hDM := hS.dev hsz (by omega)
          rw [← EB.out] at hDM
          have x0 := x3.c0
          have x1 := x3.c1
          have x2 := x3.c2
          have hBa := hBx.alloc hBx.size (.cells #[.slice (some ⟨g, 0, none⟩) n C5, .slice none 0 0, .bool dd] 25)
          have ha : Below wr.heap.size wr (wr.alloc (.cells #[.slice (some ⟨g, 0, none⟩) n C5, .slice none 0 0, .bool dd] 25)) := (Below.refl _ _).alloc (Nat.le_refl _) _
          have hOa := (HO.out.below hBo).below ha
          have hNa := Lib.hid (hDM.below ha)
          have HQ' := Lib.hid (show q' = manyL (ds.take (i + 1)) by rw [E1.out]; exact hq')
          clear hS hDM hBo hBx x3 hq' ha HO
          go_wp2_with (at_builtin; refine wpList_append_lies _ (by rfl) _ _ _ (by rfl) w.heap.size 25 i0 _ 3 56 Try.underlying58 hi0 hz0 hz1 hz2 rfl (by omega) _ i hs' (by rfl) hOa.own ⟨wr.heap.size, 0, none⟩ 1 1 [.slice (some ⟨g, 0, none⟩) n C5, .slice none 0 0, .bool dd] (by rfl) (by rfl) (World.news_of_block (cs := #[.slice (some ⟨g, 0, none⟩) n C5, .slice none 0 0, .bool dd]) (t := 25) (fr := (0, 0)) (heap_alloc_new wr _)) (by simp [Value.oneCell']) (by omega) (by simp only [maxLen]; omega) (by omega) hBa.size (wr.heap.size + 1) (by simp) ?_)
          intro gg cap w6 hown6 hgrow6 hat6 hlt6
          have hP := Lib.hid (show OutM w.heap.size w6 (.slice (some ⟨gg, 0, none⟩) (i + 1) cap) (i + 1) (hs' ++ [.slice (some ⟨g, 0, none⟩) n C5, .slice none 0 0, .bool dd]) (cutL (ds.take (i + 1)) bs') by
            rw [ECL.out]
            exact hOa.push hdc.out hNa.out hown6 hgrow6)
          have hB6 := Lib.hid (below_own hBa hgrow6 rfl (fun t ht => (own_lt hOa.own ht).2) hBa.size)
          clear hOa hNa hown6 hgrow6 hat6 hlt6 hBa x0 x1 x2 e1
          go_wp2
          go_roundw
          case rel => exact ⟨i + 1, _, _, q', by omega, by go_num, rfl, rfl, HQ'.out, hP.out, hB6.out⟩
          case measure => simp [intOf]; omega
    · obtain rfl : nd = i := by omega
      obtain ⟨a', C', rfl, hS⟩ := hO.slab (by omega)
      rw [List.take_of_length_le (by have := hl.out; omega)] at hS
      have HS := Lib.hid hS
      clear hO hS hq
      go_wp2
      go_ret
      exact ⟨a', C', hs', rfl, HS.out, hB⟩
end Go.Proofs.Ytldgpkaecfgagaa
