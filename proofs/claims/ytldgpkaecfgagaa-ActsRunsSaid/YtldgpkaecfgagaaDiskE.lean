/- The walks of package disk: copies of rows; Twin. -/
import Derived.Test.YtldgpkaecfgagaaDiskD
import Derived.RegionTactic
import Derived.WalkLawsBesides
import Derived.Deep.QuietTactic
import Derived.BigQuiet
import Derived.Deep.RegionHeld3
import Derived.Deep.DeepCutAuto
namespace Go.Proofs.Ytldgpkaecfgagaa
open Go.RowKit PolyM PackM FoldM DevM

theorem Waits.one_cell {w : World} {hs : List Value} {ls : List (Int × List Int)} (h : Waits w hs ls) : ∀ v ∈ hs, v.oneCell' = true := by
  intro v hv
  obtain ⟨j, hj, e⟩ := List.mem_iff_getElem.1 hv
  have h1 := h.1
  obtain ⟨_, A, L, C, e0, e1, _⟩ := h.2 (j / 2) (ls[j / 2]'(by omega)) (List.getElem?_eq_getElem _)
  by_cases hp : j % 2 = 0
  · rw [show j / 2 * 2 = j by omega, List.getElem?_eq_getElem hj, e] at e0
    injection e0 with e0
    rw [e0]; rfl
  · rw [show j / 2 * 2 + 1 = j by omega, List.getElem?_eq_getElem hj, e] at e1
    injection e1 with e1
    rw [e1]; rfl
theorem slab_clone (a : Option Addr) (n c : Nat) (hs : List Value) (ls : List (List Int)) (w : World) (h : Slab w a n hs ls) (hn : n ≤ 300) :
    Calls Try.prog 71 #[.slice a n c] w fun e w' => ∃ A' C', e = .returned (.slice A' n C') ∧ w'.ownsRow w.heap.size 29 1 (.slice A' n C') n hs ∧ Below w.heap.size w w' := by
  obtain ⟨i0, hi0, hz0, hz1, hz2⟩ := info_parts hdr_info
  have q22 : ∀ (w : World) (a : Option Addr) (n c n' c' : Nat), (binOp .eql 22 (.slice a n c) (.slice none n' c')).run Try.prog w = .ok (.bool a.isNone) w := fun w a n c n' c' => Lib.run_eql_slice_nil w _ _ a n c n' c' Try.underlying22
  rcases a with _ | x
  · have h0 : n = 0 := by
      rcases h.row.2 with h0 | ⟨_, _, h0, _⟩
      · exact h0
      · cases h0
    obtain rfl : hs = [] := List.eq_nil_of_length_eq_zero (by rw [h.hlen, h0])
    subst h0
    clear h
    go_enter Try.func71, Try.ntmps71
    go_wp2
    go_ret
    exact ⟨_, _, rfl, World.ownsRow_nil _ _ _ _, Below.refl _ _⟩
  · have hr : Row (w.alloc (.cells #[] 29)) 1 (some x) n hs := h.row.below ((Below.refl _ _).alloc (Nat.le_refl _) _) (Nat.le_refl _)
    have h1 := h.each.one_cell
    clear h
    go_enter Try.func71, Try.ntmps71
    go_wp2_with (at_builtin; refine wpList_append_row _ rfl (.tmp 5) (.tmp 6) 22 rfl w.heap.size 29 i0 (.slice none 0 0) 1 24 Try.underlying22 hi0 hz0 hz1 hz2 rfl (by omega) _ 0 [] rfl (World.ownsRow_made w #[] 0 (Nat.le_refl _) (Nat.zero_le _) rfl) (some x) n c hs rfl hr h1 (by simp only [maxLen]; omega) (by omega) (by simp) ?_)
    intro v' w1 hown hgrow hv
    have hb : Below w.heap.size w w1 := ((Below.refl _ w).alloc (Nat.le_refl _) _).grown hgrow (by simp) (by intro k hk; simp [Value.ownBlock] at hk; omega)
    have hown' := hown
    obtain ⟨A', C', rfl, _⟩ := own_form hown'
    have hO := Lib.hid hown'
    clear hown hown' hgrow hv hr h1
    go_wp2
    go_ret
    exact ⟨A', C', rfl, hO.out, hb⟩
theorem wslab_clone (a : Option Addr) (n c : Nat) (hs : List Value) (ls : List (Int × List Int)) (w : World) (h : WSlab w a n hs ls) (hn : n ≤ 1100) :
    Calls Try.prog 72 #[.slice a n c] w fun e w' => ∃ A' C', e = .returned (.slice A' n C') ∧ w'.ownsRow w.heap.size 88 2 (.slice A' n C') n hs ∧ Below w.heap.size w w' := by
  obtain ⟨i0, hi0, hz0, hz1, hz2⟩ := info_parts write_info
  have q22 : ∀ (w : World) (a : Option Addr) (n c n' c' : Nat), (binOp .eql 23 (.slice a n c) (.slice none n' c')).run Try.prog w = .ok (.bool a.isNone) w := fun w a n c n' c' => Lib.run_eql_slice_nil w _ _ a n c n' c' Try.underlying23
  rcases a with _ | x
  · have h0 : n = 0 := by
      rcases h.row.2 with h0 | ⟨_, _, h0, _⟩
      · exact h0
      · cases h0
    obtain rfl : hs = [] := List.eq_nil_of_length_eq_zero (by have := h.row.1; omega)
    subst h0
    clear h
    go_enter Try.func72, Try.ntmps72
    go_wp2
    go_ret
    exact ⟨_, _, rfl, World.ownsRow_nil _ _ _ _, Below.refl _ _⟩
  · have hr : Row (w.alloc (.cells #[] 88)) 2 (some x) n hs := h.row.below ((Below.refl _ _).alloc (Nat.le_refl _) _) (Nat.le_refl _)
    have h1 := h.each.one_cell
    clear h
    go_enter Try.func72, Try.ntmps72
    go_wp2_with (at_builtin; refine wpList_append_row _ rfl (.tmp 5) (.tmp 6) 23 rfl w.heap.size 88 i0 (.agg #[.int .i64 0, .slice none 0 0]) 2 32 Try.underlying23 hi0 hz0 hz1 hz2 rfl (by omega) _ 0 [] rfl (World.ownsRow_made w #[] 0 (Nat.le_refl _) (Nat.zero_le _) rfl) (some x) n c hs rfl hr h1 (by simp only [maxLen]; omega) (by omega) (by simp) ?_)
    intro v' w1 hown hgrow hv
    have hb : Below w.heap.size w w1 := ((Below.refl _ w).alloc (Nat.le_refl _) _).grown hgrow (by simp) (by intro k hk; simp [Value.ownBlock] at hk; omega)
    have hown' := hown
    obtain ⟨A', C', rfl, _⟩ := own_form hown'
    have hO := Lib.hid hown'
    clear hown hown' hgrow hv hr h1
    go_wp2
    go_ret
    exact ⟨A', C', rfl, hO.out, hb⟩

/-- What a region that draws its order may lean on: a box, and that nothing of what was has turned. -/
theorem heldD_call {wq W W' : World} {b : Nat} {x y z : Value} (h : Below wq.heap.size wq W ∧ W.cell? ⟨b, 0, none⟩ = some x ∧ W.cell? ⟨b, 1, none⟩ = some y ∧ W.cell? ⟨b, 2, none⟩ = some z) (hb : Below W.heap.size W W') :
    Below wq.heap.size wq W' ∧ W'.cell? ⟨b, 0, none⟩ = some x ∧ W'.cell? ⟨b, 1, none⟩ = some y ∧ W'.cell? ⟨b, 2, none⟩ = some z := by
  obtain ⟨h1, h2, h3, h4⟩ := h
  exact ⟨h1.trans (hb.mono h1.size), (hb.cell (p := ⟨b, 0, none⟩) (cell_lt h2)).trans h2, (hb.cell (p := ⟨b, 1, none⟩) (cell_lt h3)).trans h3, (hb.cell (p := ⟨b, 2, none⟩) (cell_lt h4)).trans h4⟩
theorem heldD_set {wq W : World} {b : Nat} {x y z : Value} (h : Below wq.heap.size wq W ∧ W.cell? ⟨b, 0, none⟩ = some x ∧ W.cell? ⟨b, 1, none⟩ = some y ∧ W.cell? ⟨b, 2, none⟩ = some z) {p : Addr} (hp : wq.heap.size ≤ p.block) (hb : b < wq.heap.size) (u : Value) :
    Below wq.heap.size wq (W.setCell p u) ∧ (W.setCell p u).cell? ⟨b, 0, none⟩ = some x ∧ (W.setCell p u).cell? ⟨b, 1, none⟩ = some y ∧ (W.setCell p u).cell? ⟨b, 2, none⟩ = some z := by
  obtain ⟨h1, h2, h3, h4⟩ := h
  have hne : ∀ o, p ≠ ⟨b, o, none⟩ := by intro o e; rw [e] at hp; simp at hp; omega
  exact ⟨h1.setCell hp _, by rw [World.cell?_setCell_other _ _ _ _ (hne 0)]; exact h2, by rw [World.cell?_setCell_other _ _ _ _ (hne 1)]; exact h3, by rw [World.cell?_setCell_other _ _ _ _ (hne 2)]; exact h4⟩
/-- What holds while the blocks are copied: k of them are. -/
def TwinB (w : World) (bl : List (List Int)) (ht : List Value) (b3 : Nat) (A B : Option Addr) (n C m D : Nat) (dd : Bool) (k : Nat) (wr : World) : Prop :=
  ∃ hs, wr.ownsRow w.heap.size 29 1 (.slice A n C) n hs ∧ wr.ownsRow w.heap.size 88 2 (.slice B m D) m ht ∧ Hdrs wr hs bl ∧ High w.heap.size wr (hs.take k) ∧
    BoxD wr b3 (.slice A n C) (.slice B m D) (.bool dd) ∧ BoxD wr (w.heap.size + 1) (.slice none 0 0) (.slice none 0 0) (.bool false) ∧ w.heap.size + 1 < b3 ∧ Below w.heap.size w wr
theorem twinB_alloc {w W : World} {bl : List (List Int)} {hs ht : List Value} {A B : Option Addr} {n C m D : Nat} {dd : Bool} (o1 : W.ownsRow w.heap.size 29 1 (.slice A n C) n hs) (o2 : W.ownsRow w.heap.size 88 2 (.slice B m D) m ht) (h1 : Hdrs W hs bl)
    (b2 : BoxD W (w.heap.size + 1) (.slice none 0 0) (.slice none 0 0) (.bool false)) (hb : Below w.heap.size w W) : TwinB w bl ht W.heap.size A B n C m D dd 0 (W.alloc (.cells #[.slice A n C, .slice B m D, .bool dd] 25)) :=
  have ha : Below W.heap.size W (W.alloc (.cells #[.slice A n C, .slice B m D, .bool dd] 25)) := (Below.refl _ _).alloc (Nat.le_refl _) _
  ⟨hs, own_below o1 ha, own_below o2 ha, h1.below ha (Nat.le_refl _), by rw [List.take_zero]; exact High.nil _ _, BoxD.new _ _ _ _, b2.below ha, b2.lt, hb.alloc hb.size _⟩
theorem twinB_set {w W : World} {bl : List (List Int)} {hs ht : List Value} {A B : Option Addr} {n C m D b : Nat} {dd : Bool} (o1 : W.ownsRow w.heap.size 29 1 (.slice A n C) n hs) (o2 : W.ownsRow w.heap.size 88 2 (.slice B m D) m ht) (h1 : Hdrs W hs bl)
    (b2 : BoxD W (w.heap.size + 1) (.slice none 0 0) (.slice none 0 0) (.bool false)) (hb : Below w.heap.size w W) (b3 : BoxD W b (.slice none 0 0) (.slice none 0 0) (.bool false)) (hlt : w.heap.size + 1 < b) :
    TwinB w bl ht b A B n C m D dd 0 (((W.setCell ⟨b, 0, none⟩ (.slice A n C)).setCell ⟨b, 1, none⟩ (.slice B m D)).setCell ⟨b, 2, none⟩ (.bool dd)) := by
  have s0 := b3.s0 (.slice A n C)
  have s1 := s0.s1 (.slice B m D)
  have s2 := s1.s2 (.bool dd)
  have e1 : ∀ {V : World} {x y z : Value}, BoxD V b x y z → V.ownsRow w.heap.size 29 1 (.slice A n C) n hs → (Value.slice A n C).ownBlock ≠ some b := fun h o => own_box o h (by decide)
  have e2 : ∀ {V : World} {x y z : Value}, BoxD V b x y z → V.ownsRow w.heap.size 88 2 (.slice B m D) m ht → (Value.slice B m D).ownBlock ≠ some b := fun h o => own_box o h (by decide)
  have hne : w.heap.size + 1 ≠ b := by omega
  refine ⟨hs, own_other (own_other (own_other o1 (e1 b3 o1) _) (e1 b3 o1) _) (e1 b3 o1) _, own_other (own_other (own_other o2 (e2 b3 o2) _) (e2 b3 o2) _) (e2 b3 o2) _,
    ((h1.setOther b3.c0 (by intro q; simp)).setOther s0.c1 (by intro q; simp)).setOther s1.c2 (by intro q; simp), by rw [List.take_zero]; exact High.nil _ _, s2, ((b2.other hne _).other hne _).other hne _, hlt, ((hb.setCell ?_ _).setCell ?_ _).setCell ?_ _⟩
  all_goals (show w.heap.size ≤ b; omega)
theorem set_same {α : Type} {l : List α} {k : Nat} {x : α} (h : l[k]? = some x) : l.set k x = l := by
  apply List.ext_getElem?
  intro i
  rw [List.getElem?_set]
  by_cases e : k = i
  · subst e
    rw [if_pos rfl, if_pos (List.getElem?_eq_some_iff.1 h).1, h]
  · rw [if_neg e]
/-- One block more is copied. -/
theorem TwinB.next {w : World} {bl : List (List Int)} {ht : List Value} {b3 : Nat} {A B : Option Addr} {n C m D : Nat} {dd : Bool} {k : Nat} {wr w5 : World} (h : TwinB w bl ht b3 A B n C m D dd k wr) (hb5 : Below wr.heap.size wr w5) {v : Value} {zs : List Int} (hf : Fresh wr.heap.size w5 v zs) (hz : bl[k]? = some zs) (hk : k < n) {g : Nat} (hA : A = some ⟨g, 0, none⟩) :
    TwinB w bl ht b3 A B n C m D dd (k + 1) (w5.setCell ⟨g, k, none⟩ v) := by
  subst hA
  obtain ⟨hs, o1, o2, h1, g1, b1, b2, hl, hb1⟩ := h
  have o1' := own_below o1 hb5
  have o2' := own_below o2 hb5
  have hlen : hs.length = n := by have := o1.1; omega
  obtain ⟨A5, L5, C5, rfl, hI, hH⟩ := hf
  have hc := own_cell (k := k) o1' (List.getElem?_eq_getElem (by omega))
  have hcell := (h1.below hb5 (Nat.le_refl _))
  obtain ⟨A0, L0, C0, z0, q1, q2, _⟩ := h1.2 k _ (List.getElem?_eq_getElem (by omega))
  rw [q2] at hc
  have hne : ∀ q, Value.slice A0 L0 C0 ≠ .int .u8 q := by intro q; simp
  have hbg : w.heap.size ≤ g := (own_lt o1 rfl).2
  refine ⟨hs.set k (.slice A5 L5 C5), own_set o1' _, own_other (p := ⟨g, k, none⟩) o2' (own_apart o1' o2' (by decide) rfl) _, ?_, ?_, (b1.below hb5).other (Ne.symm ?_) _, (b2.below hb5).other (Ne.symm ?_) _, hl, (hb1.trans (hb5.mono hb1.size)).setCell hbg _⟩
  · have := ((h1.below hb5 (Nat.le_refl _)).setOther (u := .slice A5 L5 C5) hc.1 hne).set k (C := C5) (hI.setOther hc.1 hne)
    rwa [set_same hz] at this
  · rw [take_snocL (x := .slice A5 L5 C5) (by rw [List.getElem?_set, if_pos rfl, if_pos (by omega)]), List.take_set_of_le (Nat.le_refl _)]
    exact ((g1.below hb5).setCell _ _).append ((hH.mono hb1.size).setCell _ _)
  · intro e; exact own_box o1 b1 (by decide) (by rw [← e]; rfl)
  · intro e; exact own_box o1 b2 (by decide) (by rw [← e]; rfl)

/-- What holds while what waits is copied. -/
def TwinW (w : World) (bl : List (List Int)) (wt : List (Int × List Int)) (b3 : Nat) (A B : Option Addr) (n C m D : Nat) (dd : Bool) (k : Nat) (wr : World) : Prop :=
  ∃ hs ht, wr.ownsRow w.heap.size 29 1 (.slice A n C) n hs ∧ wr.ownsRow w.heap.size 88 2 (.slice B m D) m ht ∧ Hdrs wr hs bl ∧ Waits wr ht wt ∧ High w.heap.size wr hs ∧ High w.heap.size wr (ht.take (k * 2)) ∧
    BoxD wr b3 (.slice A n C) (.slice B m D) (.bool dd) ∧ BoxD wr (w.heap.size + 1) (.slice none 0 0) (.slice none 0 0) (.bool false) ∧ w.heap.size + 1 < b3 ∧ Below w.heap.size w wr
theorem TwinB.toW {w : World} {bl : List (List Int)} {ht : List Value} {wt : List (Int × List Int)} {b3 : Nat} {A B : Option Addr} {n C m D : Nat} {dd : Bool} {wr : World} (h : TwinB w bl ht b3 A B n C m D dd n wr) (hw : Waits w ht wt) : TwinW w bl wt b3 A B n C m D dd 0 wr := by
  obtain ⟨hs, o1, o2, h1, g1, b1, b2, hl, hb1⟩ := h
  refine ⟨hs, ht, o1, o2, h1, hw.below hb1 (Nat.le_refl _), ?_, by rw [Nat.zero_mul, List.take_zero]; exact High.nil _ _, b1, b2, hl, hb1⟩
  rwa [List.take_of_length_le (by have := o1.1; omega)] at g1
theorem Waits.set {w : World} {hs : List Value} {ls : List (Int × List Int)} (h : Waits w hs ls) {k : Nat} {x : Int × List Int} (hx : ls[k]? = some x) {A : Option Addr} {L C : Nat} (hz : Ints .u8 w A L x.2) : Waits w (hs.set (k * 2 + 1) (.slice A L C)) ls := by
  refine ⟨by rw [List.length_set]; exact h.1, fun i y hy => ?_⟩
  obtain ⟨h1, A0, L0, C0, e0, e1, e2⟩ := h.2 i y hy
  by_cases q : k = i
  · subst q
    rw [hx] at hy
    injection hy with hy
    subst hy
    exact ⟨h1, A, L, C, by rw [List.getElem?_set, if_neg (by omega)]; exact e0, by rw [List.getElem?_set, if_pos rfl, if_pos (List.getElem?_eq_some_iff.1 e1).1], hz⟩
  · exact ⟨h1, A0, L0, C0, by rw [List.getElem?_set, if_neg (by omega)]; exact e0, by rw [List.getElem?_set, if_neg (by omega)]; exact e1, e2⟩
/-- One that waits more is copied. -/
theorem TwinW.next {w : World} {bl : List (List Int)} {wt : List (Int × List Int)} {b3 : Nat} {A B : Option Addr} {n C m D : Nat} {dd : Bool} {k : Nat} {wr w5 : World} (h : TwinW w bl wt b3 A B n C m D dd k wr) (hb5 : Below wr.heap.size wr w5) {v : Value} {x : Int × List Int} (hf : Fresh wr.heap.size w5 v x.2) (hx : wt[k]? = some x) (hk : k < m) {g : Nat} (hB : B = some ⟨g, 0, none⟩) :
    TwinW w bl wt b3 A B n C m D dd (k + 1) (w5.setCell ⟨g, k * 2 + 1, none⟩ v) := by
  subst hB
  obtain ⟨hs, ht, o1, o2, h1, h2, g1, g2, b1, b2, hl, hb1⟩ := h
  have o1' := own_below o1 hb5
  have o2' := own_below o2 hb5
  have hlen : ht.length = m * 2 := o2.1
  obtain ⟨A5, L5, C5, rfl, hI, hH⟩ := hf
  obtain ⟨w1, A0, L0, C0, q0, q2, _⟩ := h2.2 k _ hx
  have hc := own_cell (k := k * 2 + 1) o2' q2
  have hne : ∀ q, Value.slice A0 L0 C0 ≠ .int .u8 q := by intro q; simp
  have hbg : w.heap.size ≤ g := (own_lt o2 rfl).2
  refine ⟨hs, ht.set (k * 2 + 1) (.slice A5 L5 C5), own_other (p := ⟨g, k * 2 + 1, none⟩) o1' (own_apart o2' o1' (by decide) rfl) _, own_set o2' _, (h1.below hb5 (Nat.le_refl _)).setOther hc.1 hne, ?_, (g1.below hb5).setCell _ _, ?_, (b1.below hb5).other (Ne.symm ?_) _, (b2.below hb5).other (Ne.symm ?_) _, hl, (hb1.trans (hb5.mono hb1.size)).setCell hbg _⟩
  · exact ((h2.below hb5 (Nat.le_refl _)).setOther hc.1 hne).set hx (hI.setOther hc.1 hne)
  · rw [show (k + 1) * 2 = k * 2 + 1 + 1 by omega, take_snocL (x := .slice A5 L5 C5) (by rw [List.getElem?_set, if_pos rfl, if_pos (by omega)]), List.take_set_of_le (Nat.le_refl _), take_snocL (x := .int .i64 x.1) q0]
    exact (((g2.below hb5).setCell _ _).append (High.scalar _ _)).append ((hH.mono hb1.size).setCell _ _)
  · intro e; exact own_box o2 b1 (by decide) (by rw [← e]; rfl)
  · intro e; exact own_box o2 b2 (by decide) (by rw [← e]; rfl)
theorem TwinW.done {w : World} {bl : List (List Int)} {wt : List (Int × List Int)} {b3 : Nat} {A B : Option Addr} {n C m D : Nat} {dd : Bool} {wr : World} (h : TwinW w bl wt b3 A B n C m D dd m wr) (m1 : n ≤ 9223372036854775807) (m2 : m ≤ 9223372036854775807) :
    DevN w.heap.size wr (.agg #[.slice A n C, .slice B m D, .bool dd]) ⟨bl, wt, dd⟩ := by
  obtain ⟨hs, ht, o1, o2, h1, h2, g1, g2, b1, b2, hl, hb1⟩ := h
  refine ⟨A, n, C, hs, B, m, D, ht, rfl, o1, o2, h1, h2, g1, ?_, m1, m2⟩
  rwa [List.take_of_length_le (by have := o2.1; omega)] at g2

set_option maxRecDepth 100000 in
set_option maxHeartbeats 4000000 in
theorem twin_calls (v : Value) (d : Dev) (w : World) (h : DevV w v d) (hn : d.blocks.length ≤ 300) (hm : d.wait.length ≤ 1100) (hr1 : ∀ b ∈ d.blocks, b.length ≤ 60000) (hr2 : ∀ x ∈ d.wait, x.2.length ≤ 60000) :
    Calls Try.prog 28 #[v] w fun e w' => ∃ v', e = .returned v' ∧ DevN w.heap.size w' v' d ∧ Below w.heap.size w w' := by
  obtain ⟨A, n, C, hs, B, m, D, ht, rfl, h1, h2⟩ := h
  rw [h1.len] at hn
  rw [h2.len] at hm
  obtain ⟨bl, wt, dd⟩ := d
  simp only at *
  have hl1 := Lib.hid h1.len
  have hl2 := Lib.hid h2.len
  have R1 := Lib.hid hr1
  have R2 := Lib.hid hr2
  clear hr1 hr2
  have bx0 := (BoxD.new w (.slice A n C) (.slice B m D) (.bool dd)).alloc (.cells #[.slice none 0 0, .slice none 0 0, .bool false] 25)
  have bx1 := BoxD.new (w.alloc (.cells #[.slice A n C, .slice B m D, .bool dd] 25)) (.slice none 0 0) (.slice none 0 0) (.bool false)
  rw [World.size_alloc] at bx1
  have hb : Below w.heap.size w ((w.alloc (.cells #[.slice A n C, .slice B m D, .bool dd] 25)).alloc (.cells #[.slice none 0 0, .slice none 0 0, .bool false] 25)) := ((Below.refl _ _).alloc (Nat.le_refl _) _).alloc (by simp) _
  have hsz : w.heap.size + 1 < ((w.alloc (.cells #[.slice A n C, .slice B m D, .bool dd] 25)).alloc (.cells #[.slice none 0 0, .slice none 0 0, .bool false] 25)).heap.size := by simp
  go_enter Try.func28, Try.ntmps28
  go_upto_region 1 with fail
  generalize World.alloc (World.alloc _ _) _ = wq at *
  go_cut [3] (fun s3 wx => ∃ (b3 : Nat) (A' B' : Option Addr) (C' D' : Nat), s3 = .pointer (some ⟨b3, 0, none⟩) ∧ TwinB w bl ht b3 A' B' n C' m D' dd 0 wx)
  case first =>
    have c0 := bx0.c0
    have c1 := bx0.c1
    have c2 := bx0.c2
    have hsK : w.heap.size < wq.heap.size := by omega
    refine wp_region_held_drew (S := (fun W => Below wq.heap.size wq W ∧ W.cell? ⟨w.heap.size, 0, none⟩ = some (.slice A n C) ∧ W.cell? ⟨w.heap.size, 1, none⟩ = some (.slice B m D) ∧ W.cell? ⟨w.heap.size, 2, none⟩ = some (.bool dd))) (by kernel_rfl) ?_ (fun hHeld => ?_)
    · first | assumption | exact ⟨(Below.refl _ _).drew, c0, c1, c2⟩ | exact heldD_call (by assumption) (by assumption) | exact heldD_call (by assumption) ((Below.refl _ _).alloc (Nat.le_refl _) _) | exact heldD_call hS8 ((Below.refl _ _).alloc (Nat.le_refl _) _) | exact heldD_set (heldD_set (heldD_set (by assumption) (Nat.le_refl _) hsK _) (Nat.le_refl _) hsK _) (Nat.le_refl _) hsK _ | exact heldD_set (heldD_set (heldD_set (by assumption) hz9 hsK _) hz9 hsK _) hz9 hsK _
    refine wpAnyH_take (i := 0) (v := ?_) rfl (by kernel_rfl) (by kernel_rfl) (by kernel_rfl) (fun _ _ _ h => h) (Or.inl ⟨by rfl, ?_⟩) (by assumption) ?_
    rotate_left
    · (intro w hSw; (try dsimp only at hSw); go_simp; try with_reducible rfl)
    try simp only [Act.put, List.setIfInBounds_toArray]
    refine wpAnyH_take (i := 1) (v := ?_) rfl (by kernel_rfl) (by kernel_rfl) (by kernel_rfl) (fun _ _ _ h => h) (Or.inl ⟨by rfl, ?_⟩) (by assumption) ?_
    rotate_left
    · (intro w hSw; (try dsimp only at hSw); go_simp; try with_reducible rfl)
    try simp only [Act.put]
    refine wpAnyH_take (i := 3) (v := ?_) rfl (by kernel_rfl) (by kernel_rfl) (by kernel_rfl) (fun _ _ _ h => h) (Or.inl ⟨by rfl, ?_⟩) (by assumption) ?_
    rotate_left
    · (intro w hSw; (try dsimp only at hSw); go_simp; try with_reducible rfl)
    try simp only [Act.put]
    refine wpAnyH_take (i := 4) (v := ?_) rfl (by kernel_rfl) (by kernel_rfl) (by kernel_rfl) (fun _ _ _ h => h) (Or.inl ⟨by rfl, ?_⟩) (by assumption) ?_
    rotate_left
    · (intro w hSw; (try dsimp only at hSw); go_simp; try with_reducible rfl)
    try simp only [Act.put]
    refine wpAnyH_take (i := 6) (v := ?_) rfl (by kernel_rfl) (by kernel_rfl) (by kernel_rfl) (fun _ _ _ h => h) (Or.inl ⟨by rfl, ?_⟩) (by assumption) ?_
    rotate_left
    · (intro w hSw; (try dsimp only at hSw); go_simp; try with_reducible rfl)
    try simp only [Act.put]
    refine wpAnyH_take (i := 7) (v := ?_) rfl (by kernel_rfl) (by kernel_rfl) (by kernel_rfl) (fun _ _ _ h => h) (Or.inl ⟨by rfl, ?_⟩) (by assumption) ?_
    rotate_left
    · (intro w hSw; (try dsimp only at hSw); go_simp; try with_reducible rfl)
    try simp only [Act.put]
    refine wpAnyH_ready (rs := [2, 9]) (by kernel_rfl) (by simp) ?_
    refine AllReadyH.cons rfl (fun K hK => ?_) (AllReadyH.cons rfl (fun K hK => ?_) AllReadyH.nil)
    ·
      go_simp
      refine (slab_clone A n C hs bl _ (h1.below (hb.trans (hHeld.1.mono hb.size)) (Nat.le_refl _)) hn).mono ?_
      rintro e w9 ⟨A', C', rfl, oA, hb9⟩
      have hz9 : wq.heap.size ≤ w9.heap.size := Nat.le_trans (by simp) hb9.size
      first | (have bq := ((BoxD.new wq (.slice none 0 0) (.slice none 0 0) (.bool false)).below ((Below.refl _ _).drew)).below hb9) | skip
      go_wp2_with fail
      refine hK.out _ _ ?_ (fun hHeld2 => ?_)
      · first | assumption | exact ⟨(Below.refl _ _).drew, c0, c1, c2⟩ | exact heldD_call (by assumption) (by assumption) | exact heldD_call (by assumption) ((Below.refl _ _).alloc (Nat.le_refl _) _) | exact heldD_call hS8 ((Below.refl _ _).alloc (Nat.le_refl _) _) | exact heldD_set (heldD_set (heldD_set (by assumption) (Nat.le_refl _) hsK _) (Nat.le_refl _) hsK _) (Nat.le_refl _) hsK _ | exact heldD_set (heldD_set (heldD_set (by assumption) hz9 hsK _) hz9 hsK _) hz9 hsK _
      clear hK K hHeld
      have hHeld := hHeld2
      clear hHeld2
      try simp only [Act.put, List.setIfInBounds_toArray, List.set_cons_zero, List.set_cons_succ]
      refine wpAnyH_ready (rs := [5, 9]) (by kernel_rfl) (by simp) ?_
      refine AllReadyH.cons rfl (fun K hK => ?_) (AllReadyH.cons rfl (fun K hK => ?_) AllReadyH.nil)
      ·
        go_simp
        refine (wslab_clone B m D ht wt _ (h2.below (hb.trans (hHeld.1.mono hb.size)) (Nat.le_refl _)) hm).mono ?_
        rintro e w8 ⟨B', D', rfl, oB, hb8⟩
        have hS8 := heldD_call hHeld hb8
        first | (have b3 := bq.below hb8; have q0 := b3.c0; have q1 := b3.c1; have q2 := b3.c2; have r0 := b3.fr (o := 0); have r1 := b3.fr (o := 1); have r2 := b3.fr (o := 2)) | (have b3 := (BoxD.new w9 (.slice none 0 0) (.slice none 0 0) (.bool false)).below hb8; have q0 := b3.c0; have q1 := b3.c1; have q2 := b3.c2; have r0 := b3.fr (o := 0); have r1 := b3.fr (o := 1); have r2 := b3.fr (o := 2)) | (have b3 := BoxD.new w8 (.slice none 0 0) (.slice none 0 0) (.bool false); have q0 := b3.c0; have q1 := b3.c1; have q2 := b3.c2; have r0 := b3.fr (o := 0); have r1 := b3.fr (o := 1); have r2 := b3.fr (o := 2))
        go_wp2_with fail
        refine hK.out _ _ ?_ (fun hHeld2 => ?_)
        · first | assumption | exact ⟨(Below.refl _ _).drew, c0, c1, c2⟩ | exact heldD_call (by assumption) (by assumption) | exact heldD_call (by assumption) ((Below.refl _ _).alloc (Nat.le_refl _) _) | exact heldD_call hS8 ((Below.refl _ _).alloc (Nat.le_refl _) _) | exact heldD_set (heldD_set (heldD_set (by assumption) (Nat.le_refl _) hsK _) (Nat.le_refl _) hsK _) (Nat.le_refl _) hsK _ | exact heldD_set (heldD_set (heldD_set (by assumption) hz9 hsK _) hz9 hsK _) hz9 hsK _
        clear hK K hHeld
        have hHeld := hHeld2
        clear hHeld2
        try simp only [Act.put, List.setIfInBounds_toArray, List.set_cons_zero, List.set_cons_succ]
        refine wpAnyH_take (i := 8) (v := ?_) rfl (by kernel_rfl) (by kernel_rfl) (by kernel_rfl) (fun _ _ _ h => h) (Or.inl ⟨by rfl, ?_⟩) (by assumption) ?_
        rotate_left
        · (intro w hSw; (try dsimp only at hSw); go_simp; try with_reducible rfl)
        try simp only [Act.put, List.setIfInBounds_toArray]
        refine wpAnyH_ready (rs := [9]) (by kernel_rfl) (by simp) ?_
        refine AllReadyH.cons rfl (fun K hK => ?_) AllReadyH.nil
        go_simp
        refine hK.out _ _ ?_ (fun hHeld2 => ?_)
        · first | assumption | exact ⟨(Below.refl _ _).drew, c0, c1, c2⟩ | exact heldD_call (by assumption) (by assumption) | exact heldD_call (by assumption) ((Below.refl _ _).alloc (Nat.le_refl _) _) | exact heldD_call hS8 ((Below.refl _ _).alloc (Nat.le_refl _) _) | exact heldD_set (heldD_set (heldD_set (by assumption) (Nat.le_refl _) hsK _) (Nat.le_refl _) hsK _) (Nat.le_refl _) hsK _ | exact heldD_set (heldD_set (heldD_set (by assumption) hz9 hsK _) hz9 hsK _) hz9 hsK _
        clear hK K hHeld
        have hHeld := hHeld2
        clear hHeld2
        try simp only [Act.put, List.setIfInBounds_toArray, List.set_cons_zero, List.set_cons_succ]
        refine wpAnyH_ready (rs := [10]) (by kernel_rfl) (by simp) ?_
        refine AllReadyH.cons rfl (fun K hK => ?_) AllReadyH.nil
        go_simp
        refine hK.out _ _ ?_ (fun hHeld2 => ?_)
        · first | assumption | exact ⟨(Below.refl _ _).drew, c0, c1, c2⟩ | exact heldD_call (by assumption) (by assumption) | exact heldD_call (by assumption) ((Below.refl _ _).alloc (Nat.le_refl _) _) | exact heldD_call hS8 ((Below.refl _ _).alloc (Nat.le_refl _) _) | exact heldD_set (heldD_set (heldD_set (by assumption) (Nat.le_refl _) hsK _) (Nat.le_refl _) hsK _) (Nat.le_refl _) hsK _ | exact heldD_set (heldD_set (heldD_set (by assumption) hz9 hsK _) hz9 hsK _) hz9 hsK _
        clear hK K hHeld
        have hHeld := hHeld2
        clear hHeld2
        try simp only [Act.put, List.setIfInBounds_toArray, List.set_cons_zero, List.set_cons_succ]
        refine wpAnyH_done (by kernel_rfl) ?_ _
        have hB8 := hb.trans (hS8.1.mono hb.size)
        have oA' := own_mono (K := w.heap.size) (own_below oA hb8) (Nat.le_trans hb.size (by simp))
        have oB' := own_mono (K := w.heap.size) oB (Nat.le_trans hb.size hz9)
        have hT := Lib.hid (twinB_alloc (dd := dd) oA' oB' (h1.each.below hB8 (Nat.le_refl _)) (bx1.below hS8.1) hB8)
        clear hHeld hS8 oA oB oA' oB' c0 c1 c2 q0 q1 q2 r0 r1 r2
        go_wp2_with fail
        go_meet
        case rel => exact ⟨_, _, _, _, _, rfl, hT.out⟩
      ·
        go_simp
        refine hK.out _ _ ?_ (fun hHeld2 => ?_)
        · first | assumption | exact ⟨(Below.refl _ _).drew, c0, c1, c2⟩ | exact heldD_call (by assumption) (by assumption) | exact heldD_call (by assumption) ((Below.refl _ _).alloc (Nat.le_refl _) _) | exact heldD_call hS8 ((Below.refl _ _).alloc (Nat.le_refl _) _) | exact heldD_set (heldD_set (heldD_set (by assumption) (Nat.le_refl _) hsK _) (Nat.le_refl _) hsK _) (Nat.le_refl _) hsK _ | exact heldD_set (heldD_set (heldD_set (by assumption) hz9 hsK _) hz9 hsK _) hz9 hsK _
        clear hK K hHeld
        have hHeld := hHeld2
        clear hHeld2
        try simp only [Act.put, List.setIfInBounds_toArray, List.set_cons_zero, List.set_cons_succ]
        refine wpAnyH_ready (rs := [5]) (by kernel_rfl) (by simp) ?_
        refine AllReadyH.cons rfl (fun K hK => ?_) AllReadyH.nil
        go_simp
        refine (wslab_clone B m D ht wt _ (h2.below (hb.trans (hHeld.1.mono hb.size)) (Nat.le_refl _)) hm).mono ?_
        rintro e w8 ⟨B', D', rfl, oB, hb8⟩
        have hS8 := heldD_call hHeld hb8
        first | (have b3 := bq.below hb8; have q0 := b3.c0; have q1 := b3.c1; have q2 := b3.c2; have r0 := b3.fr (o := 0); have r1 := b3.fr (o := 1); have r2 := b3.fr (o := 2)) | (have b3 := (BoxD.new w9 (.slice none 0 0) (.slice none 0 0) (.bool false)).below hb8; have q0 := b3.c0; have q1 := b3.c1; have q2 := b3.c2; have r0 := b3.fr (o := 0); have r1 := b3.fr (o := 1); have r2 := b3.fr (o := 2)) | (have b3 := BoxD.new w8 (.slice none 0 0) (.slice none 0 0) (.bool false); have q0 := b3.c0; have q1 := b3.c1; have q2 := b3.c2; have r0 := b3.fr (o := 0); have r1 := b3.fr (o := 1); have r2 := b3.fr (o := 2))
        go_wp2_with fail
        refine hK.out _ _ ?_ (fun hHeld2 => ?_)
        · first | assumption | exact ⟨(Below.refl _ _).drew, c0, c1, c2⟩ | exact heldD_call (by assumption) (by assumption) | exact heldD_call (by assumption) ((Below.refl _ _).alloc (Nat.le_refl _) _) | exact heldD_call hS8 ((Below.refl _ _).alloc (Nat.le_refl _) _) | exact heldD_set (heldD_set (heldD_set (by assumption) (Nat.le_refl _) hsK _) (Nat.le_refl _) hsK _) (Nat.le_refl _) hsK _ | exact heldD_set (heldD_set (heldD_set (by assumption) hz9 hsK _) hz9 hsK _) hz9 hsK _
        clear hK K hHeld
        have hHeld := hHeld2
        clear hHeld2
        try simp only [Act.put, List.setIfInBounds_toArray, List.set_cons_zero, List.set_cons_succ]
        refine wpAnyH_ready (rs := [8]) (by kernel_rfl) (by simp) ?_
        refine AllReadyH.cons rfl (fun K hK => ?_) AllReadyH.nil
        go_simp
        refine hK.out _ _ ?_ (fun hHeld2 => ?_)
        · first | assumption | exact ⟨(Below.refl _ _).drew, c0, c1, c2⟩ | exact heldD_call (by assumption) (by assumption) | exact heldD_call (by assumption) ((Below.refl _ _).alloc (Nat.le_refl _) _) | exact heldD_call hS8 ((Below.refl _ _).alloc (Nat.le_refl _) _) | exact heldD_set (heldD_set (heldD_set (by assumption) (Nat.le_refl _) hsK _) (Nat.le_refl _) hsK _) (Nat.le_refl _) hsK _ | exact heldD_set (heldD_set (heldD_set (by assumption) hz9 hsK _) hz9 hsK _) hz9 hsK _
        clear hK K hHeld
        have hHeld := hHeld2
        clear hHeld2
        try simp only [Act.put, List.setIfInBounds_toArray, List.set_cons_zero, List.set_cons_succ]
        refine wpAnyH_ready (rs := [10]) (by kernel_rfl) (by simp) ?_
        refine AllReadyH.cons rfl (fun K hK => ?_) AllReadyH.nil
        go_simp
        refine hK.out _ _ ?_ (fun hHeld2 => ?_)
        · first | assumption | exact ⟨(Below.refl _ _).drew, c0, c1, c2⟩ | exact heldD_call (by assumption) (by assumption) | exact heldD_call (by assumption) ((Below.refl _ _).alloc (Nat.le_refl _) _) | exact heldD_call hS8 ((Below.refl _ _).alloc (Nat.le_refl _) _) | exact heldD_set (heldD_set (heldD_set (by assumption) (Nat.le_refl _) hsK _) (Nat.le_refl _) hsK _) (Nat.le_refl _) hsK _ | exact heldD_set (heldD_set (heldD_set (by assumption) hz9 hsK _) hz9 hsK _) hz9 hsK _
        clear hK K hHeld
        have hHeld := hHeld2
        clear hHeld2
        try simp only [Act.put, List.setIfInBounds_toArray, List.set_cons_zero, List.set_cons_succ]
        refine wpAnyH_done (by kernel_rfl) ?_ _
        have hB8 := hb.trans (hS8.1.mono hb.size)
        have oA' := own_mono (K := w.heap.size) (own_below (own_below oA ((Below.refl _ _).alloc (Nat.le_refl _) _)) hb8) (Nat.le_trans hb.size (by simp))
        have oB' := own_mono (K := w.heap.size) oB (Nat.le_trans hb.size (Nat.le_trans hz9 (by simp)))
        have hT := Lib.hid (twinB_set (dd := dd) oA' oB' (h1.each.below hB8 (Nat.le_refl _)) (bx1.below hS8.1) hB8 b3 (Nat.lt_of_lt_of_le hsz hz9))
        clear hHeld hS8 oA oB oA' oB' c0 c1 c2 q0 q1 q2 r0 r1 r2
        go_wp2_with fail
        go_meet
        case rel => exact ⟨_, _, _, _, _, rfl, hT.out⟩
    ·
      go_simp
      refine hK.out _ _ ?_ (fun hHeld2 => ?_)
      · first | assumption | exact ⟨(Below.refl _ _).drew, c0, c1, c2⟩ | exact heldD_call (by assumption) (by assumption) | exact heldD_call (by assumption) ((Below.refl _ _).alloc (Nat.le_refl _) _) | exact heldD_call hS8 ((Below.refl _ _).alloc (Nat.le_refl _) _) | exact heldD_set (heldD_set (heldD_set (by assumption) (Nat.le_refl _) hsK _) (Nat.le_refl _) hsK _) (Nat.le_refl _) hsK _ | exact heldD_set (heldD_set (heldD_set (by assumption) hz9 hsK _) hz9 hsK _) hz9 hsK _
      clear hK K hHeld
      have hHeld := hHeld2
      clear hHeld2
      try simp only [Act.put, List.setIfInBounds_toArray, List.set_cons_zero, List.set_cons_succ]
      refine wpAnyH_ready (rs := [2]) (by kernel_rfl) (by simp) ?_
      refine AllReadyH.cons rfl (fun K hK => ?_) AllReadyH.nil
      go_simp
      refine (slab_clone A n C hs bl _ (h1.below (hb.trans (hHeld.1.mono hb.size)) (Nat.le_refl _)) hn).mono ?_
      rintro e w9 ⟨A', C', rfl, oA, hb9⟩
      have hz9 : wq.heap.size ≤ w9.heap.size := Nat.le_trans (by simp) hb9.size
      first | (have bq := ((BoxD.new wq (.slice none 0 0) (.slice none 0 0) (.bool false)).below ((Below.refl _ _).drew)).below hb9) | skip
      go_wp2_with fail
      refine hK.out _ _ ?_ (fun hHeld2 => ?_)
      · first | assumption | exact ⟨(Below.refl _ _).drew, c0, c1, c2⟩ | exact heldD_call (by assumption) (by assumption) | exact heldD_call (by assumption) ((Below.refl _ _).alloc (Nat.le_refl _) _) | exact heldD_call hS8 ((Below.refl _ _).alloc (Nat.le_refl _) _) | exact heldD_set (heldD_set (heldD_set (by assumption) (Nat.le_refl _) hsK _) (Nat.le_refl _) hsK _) (Nat.le_refl _) hsK _ | exact heldD_set (heldD_set (heldD_set (by assumption) hz9 hsK _) hz9 hsK _) hz9 hsK _
      clear hK K hHeld
      have hHeld := hHeld2
      clear hHeld2
      try simp only [Act.put, List.setIfInBounds_toArray, List.set_cons_zero, List.set_cons_succ]
      refine wpAnyH_ready (rs := [5]) (by kernel_rfl) (by simp) ?_
      refine AllReadyH.cons rfl (fun K hK => ?_) AllReadyH.nil
      go_simp
      refine (wslab_clone B m D ht wt _ (h2.below (hb.trans (hHeld.1.mono hb.size)) (Nat.le_refl _)) hm).mono ?_
      rintro e w8 ⟨B', D', rfl, oB, hb8⟩
      have hS8 := heldD_call hHeld hb8
      first | (have b3 := bq.below hb8; have q0 := b3.c0; have q1 := b3.c1; have q2 := b3.c2; have r0 := b3.fr (o := 0); have r1 := b3.fr (o := 1); have r2 := b3.fr (o := 2)) | (have b3 := (BoxD.new w9 (.slice none 0 0) (.slice none 0 0) (.bool false)).below hb8; have q0 := b3.c0; have q1 := b3.c1; have q2 := b3.c2; have r0 := b3.fr (o := 0); have r1 := b3.fr (o := 1); have r2 := b3.fr (o := 2)) | (have b3 := BoxD.new w8 (.slice none 0 0) (.slice none 0 0) (.bool false); have q0 := b3.c0; have q1 := b3.c1; have q2 := b3.c2; have r0 := b3.fr (o := 0); have r1 := b3.fr (o := 1); have r2 := b3.fr (o := 2))
      go_wp2_with fail
      refine hK.out _ _ ?_ (fun hHeld2 => ?_)
      · first | assumption | exact ⟨(Below.refl _ _).drew, c0, c1, c2⟩ | exact heldD_call (by assumption) (by assumption) | exact heldD_call (by assumption) ((Below.refl _ _).alloc (Nat.le_refl _) _) | exact heldD_call hS8 ((Below.refl _ _).alloc (Nat.le_refl _) _) | exact heldD_set (heldD_set (heldD_set (by assumption) (Nat.le_refl _) hsK _) (Nat.le_refl _) hsK _) (Nat.le_refl _) hsK _ | exact heldD_set (heldD_set (heldD_set (by assumption) hz9 hsK _) hz9 hsK _) hz9 hsK _
      clear hK K hHeld
      have hHeld := hHeld2
      clear hHeld2
      try simp only [Act.put, List.setIfInBounds_toArray, List.set_cons_zero, List.set_cons_succ]
      refine wpAnyH_ready (rs := [8]) (by kernel_rfl) (by simp) ?_
      refine AllReadyH.cons rfl (fun K hK => ?_) AllReadyH.nil
      go_simp
      refine hK.out _ _ ?_ (fun hHeld2 => ?_)
      · first | assumption | exact ⟨(Below.refl _ _).drew, c0, c1, c2⟩ | exact heldD_call (by assumption) (by assumption) | exact heldD_call (by assumption) ((Below.refl _ _).alloc (Nat.le_refl _) _) | exact heldD_call hS8 ((Below.refl _ _).alloc (Nat.le_refl _) _) | exact heldD_set (heldD_set (heldD_set (by assumption) (Nat.le_refl _) hsK _) (Nat.le_refl _) hsK _) (Nat.le_refl _) hsK _ | exact heldD_set (heldD_set (heldD_set (by assumption) hz9 hsK _) hz9 hsK _) hz9 hsK _
      clear hK K hHeld
      have hHeld := hHeld2
      clear hHeld2
      try simp only [Act.put, List.setIfInBounds_toArray, List.set_cons_zero, List.set_cons_succ]
      refine wpAnyH_ready (rs := [10]) (by kernel_rfl) (by simp) ?_
      refine AllReadyH.cons rfl (fun K hK => ?_) AllReadyH.nil
      go_simp
      refine hK.out _ _ ?_ (fun hHeld2 => ?_)
      · first | assumption | exact ⟨(Below.refl _ _).drew, c0, c1, c2⟩ | exact heldD_call (by assumption) (by assumption) | exact heldD_call (by assumption) ((Below.refl _ _).alloc (Nat.le_refl _) _) | exact heldD_call hS8 ((Below.refl _ _).alloc (Nat.le_refl _) _) | exact heldD_set (heldD_set (heldD_set (by assumption) (Nat.le_refl _) hsK _) (Nat.le_refl _) hsK _) (Nat.le_refl _) hsK _ | exact heldD_set (heldD_set (heldD_set (by assumption) hz9 hsK _) hz9 hsK _) hz9 hsK _
      clear hK K hHeld
      have hHeld := hHeld2
      clear hHeld2
      try simp only [Act.put, List.setIfInBounds_toArray, List.set_cons_zero, List.set_cons_succ]
      refine wpAnyH_done (by kernel_rfl) ?_ _
      have hB8 := hb.trans (hS8.1.mono hb.size)
      have oA' := own_mono (K := w.heap.size) (own_below oA hb8) (Nat.le_trans hb.size (by simp))
      have oB' := own_mono (K := w.heap.size) oB (Nat.le_trans hb.size hz9)
      have hT := Lib.hid (twinB_set (dd := dd) oA' oB' (h1.each.below hB8 (Nat.le_refl _)) (bx1.below hS8.1) hB8 b3 hsz)
      clear hHeld hS8 oA oB oA' oB' c0 c1 c2 q0 q1 q2 r0 r1 r2
      go_wp2_with fail
      go_meet
      case rel => exact ⟨_, _, _, _, _, rfl, hT.out⟩
  case rest =>
    obtain ⟨b3, A', B', C', D', rfl, hT⟩ := hcut
    clear bx0 bx1 hb hsz
    have hT' := Lib.hid hT
    have e0 : wc.cell? ⟨b3, 0, none⟩ = some (.slice A' n C') := by
      obtain ⟨_, _, _, _, _, b, _⟩ := hT
      exact b.c0
    clear hT
    go_wp2
    go_loopw [20] (fun i wr => ∃ k : Nat, k ≤ n ∧ i = .int .i64 k ∧ TwinB w bl ht b3 A' B' n C' m D' dd k wr) (fun i _ => n - (intOf i).toNat)
    case atStart => exact ⟨0, by omega, rfl, hT'.out⟩
    case round =>
      obtain ⟨k, hk, rfl, hT⟩ := hrel
      clear hT' e0
      by_cases hkn : k < n
      · obtain ⟨g, A0, L0, C0, zs, rfl, e0, hcell, hfr, hls, hI, hgb, hl3, hgl⟩ : ∃ g A0 L0 C0 zs, A' = some ⟨g, 0, none⟩ ∧ wr.cell? ⟨b3, 0, none⟩ = some (.slice A' n C') ∧ wr.cell? ⟨g, k, none⟩ = some (.slice A0 L0 C0) ∧ wr.frozen? ⟨g, k, none⟩ = false ∧ Hid (bl[k]? = some zs) ∧ Ints .u8 wr A0 L0 zs ∧ g ≠ b3 ∧ b3 < wr.heap.size ∧ g < wr.heap.size := by
          obtain ⟨hs', o1, o2, h1', g1, b1, b2, hl, hb1⟩ := hT
          obtain ⟨g, C1, q, _, hgl⟩ := own_head o1 (by omega)
          cases q
          obtain ⟨A0, L0, C0, zs, q1, q2, q3⟩ := h1'.2 k _ (List.getElem?_eq_getElem (by have := o1.1; omega))
          have hc := own_cell (k := k) o1 (List.getElem?_eq_getElem (by have := o1.1; omega))
          rw [q2] at hc
          exact ⟨g, A0, L0, C0, zs, rfl, b1.c0, hc.1, hc.2, q1, q3, fun q => own_box o1 b1 (by decide) (by rw [← q]; rfl), b1.lt, hgl⟩
        have hL0 : L0 ≤ 1000000 := by
          have := R1.out zs (List.mem_of_getElem? hls.out)
          have := hI.len
          omega
        have hT := Lib.hid hT
        have hkn1 : (k : Int) < (n : Int) := by omega
        go_wp2
        refine wp_region_held_drew (S := (fun W => W.cell? ⟨b3, 0, none⟩ = some (.slice (some ⟨g, 0, none⟩) n C'))) (by kernel_rfl) ?_ (fun hHeld => ?_)
        · first | assumption | exact e0 | exact (hb5.cell (p := ⟨b3, 0, none⟩) hl3).trans hHeld | exact (World.cell?_setCell_other _ _ _ _ (fun q => hgb (congrArg Addr.block q))).trans hHeld
        refine wpAnyH_take (i := 0) (v := ?_) rfl (by kernel_rfl) (by kernel_rfl) (by kernel_rfl) (fun _ _ _ h => h) (Or.inl ⟨by rfl, ?_⟩) (by assumption) ?_
        rotate_left
        · (intro w hSw; (try dsimp only at hSw); go_simp; try with_reducible rfl)
        try simp only [Act.put, List.setIfInBounds_toArray]
        refine wpAnyH_take (i := 1) (v := ?_) rfl (by kernel_rfl) (by kernel_rfl) (by kernel_rfl) (fun _ _ _ h => h) (Or.inl ⟨by rfl, ?_⟩) (by assumption) ?_
        rotate_left
        · (intro w hSw; (try dsimp only at hSw); go_simp; try with_reducible rfl)
        try simp only [Act.put]
        refine wpAnyH_take (i := 2) (v := ?_) rfl (by kernel_rfl) (by kernel_rfl) (by kernel_rfl) (fun _ _ _ h => h) (Or.inl ⟨by rfl, ?_⟩) (by assumption) ?_
        rotate_left
        · (intro w hSw; (try dsimp only at hSw); go_simp; try with_reducible rfl)
        try simp only [Act.put]
        refine wpAnyH_take (i := 3) (v := ?_) rfl (by kernel_rfl) (by kernel_rfl) (by kernel_rfl) (fun _ _ _ h => h) (Or.inl ⟨by rfl, ?_⟩) (by assumption) ?_
        rotate_left
        · (intro w hSw; (try dsimp only at hSw); go_simp; try with_reducible rfl)
        try simp only [Act.put]
        refine wpAnyH_ready (rs := [4]) (by kernel_rfl) (by simp) ?_
        refine AllReadyH.cons rfl (fun K hK => ?_) AllReadyH.nil
        go_simp
        refine (bytes_clone A0 L0 C0 zs _ (hI.below (Below.refl _ _).drew (Nat.le_refl _)) hL0).mono ?_
        rintro e w5 ⟨v5, rfl, hF, hb5⟩
        obtain ⟨A5, L5, C5, rfl, hF'⟩ : ∃ A5 L5 C5, v5 = .slice A5 L5 C5 ∧ Hid (Fresh wr.heap.size w5 v5 zs) := by obtain ⟨a, b, c, e, _⟩ := id hF; exact ⟨a, b, c, e, hF⟩
        have f1 := (hb5.cell (p := ⟨g, k, none⟩) hgl).trans hcell
        have r1 := (hb5.frozen (p := ⟨g, k, none⟩) hgl).trans hfr
        clear hF
        go_wp2_with fail
        refine hK.out _ _ ?_ (fun hHeld2 => ?_)
        · first | assumption | exact e0 | exact (hb5.cell (p := ⟨b3, 0, none⟩) hl3).trans hHeld | exact (World.cell?_setCell_other _ _ _ _ (fun q => hgb (congrArg Addr.block q))).trans hHeld
        clear hK K hHeld
        have hHeld := hHeld2
        clear hHeld2
        try simp only [Act.put, List.setIfInBounds_toArray, List.set_cons_zero, List.set_cons_succ]
        refine wpAnyH_ready (rs := [5]) (by kernel_rfl) (by simp) ?_
        refine AllReadyH.cons rfl (fun K hK => ?_) AllReadyH.nil
        go_simp
        refine hK.out _ _ ?_ (fun hHeld2 => ?_)
        · first | assumption | exact e0 | exact (hb5.cell (p := ⟨b3, 0, none⟩) hl3).trans hHeld | exact (World.cell?_setCell_other _ _ _ _ (fun q => hgb (congrArg Addr.block q))).trans hHeld
        clear hK K hHeld
        have hHeld := hHeld2
        clear hHeld2
        try simp only [Act.put, List.setIfInBounds_toArray, List.set_cons_zero, List.set_cons_succ]
        refine wpAnyH_ready (rs := [6]) (by kernel_rfl) (by simp) ?_
        refine AllReadyH.cons rfl (fun K hK => ?_) AllReadyH.nil
        go_simp
        refine hK.out _ _ ?_ (fun hHeld2 => ?_)
        · first | assumption | exact e0 | exact (hb5.cell (p := ⟨b3, 0, none⟩) hl3).trans hHeld | exact (World.cell?_setCell_other _ _ _ _ (fun q => hgb (congrArg Addr.block q))).trans hHeld
        clear hK K hHeld
        have hHeld := hHeld2
        clear hHeld2
        try simp only [Act.put, List.setIfInBounds_toArray, List.set_cons_zero, List.set_cons_succ]
        refine wpAnyH_done (by kernel_rfl) ?_ _
        have hN := Lib.hid (TwinB.next hT.out ((Below.refl _ _).drew.trans (hb5.mono (Nat.le_refl _))) hF'.out hls.out hkn rfl)
        clear hT hHeld hF' f1 r1 hb5
        go_wp2
        go_roundw
        case rel => exact ⟨k + 1, by omega, by go_num, hN.out⟩
        case measure => simp [intOf]; omega
      · obtain rfl : n = k := by omega
        have hW := Lib.hid (hT.toW h2.each)
        have e1 : wr.cell? ⟨b3, 1, none⟩ = some (.slice B' m D') := by
          obtain ⟨_, _, _, _, _, b, _⟩ := hT
          exact b.c1
        have hb3 : b3 < wr.heap.size := by
          obtain ⟨_, _, _, _, _, b, _⟩ := hT
          exact b.lt
        have hkm : n ≤ 9223372036854775807 := by omega
        clear hT h1
        go_wp2
        go_loopw [35] (fun i wr => ∃ k' : Nat, k' ≤ m ∧ i = .int .i64 k' ∧ TwinW w bl wt b3 A' B' n C' m D' dd k' wr) (fun i _ => m - (intOf i).toNat)
        case atStart => exact ⟨0, by omega, rfl, hW.out⟩
        case round =>
          obtain ⟨k, hk, rfl, hT⟩ := hrel
          clear hW e1
          by_cases hkn : k < m
          · obtain ⟨g, A0, L0, C0, x, rfl, e0, hcell0, hcell, hfr, hls, hwx, hI, hgb, hl3, hgl⟩ : ∃ g A0 L0 C0 x, B' = some ⟨g, 0, none⟩ ∧ wr.cell? ⟨b3, 1, none⟩ = some (.slice B' m D') ∧ wr.cell? ⟨g, k * 2, none⟩ = some (.int .i64 x.1) ∧ wr.cell? ⟨g, k * 2 + 1, none⟩ = some (.slice A0 L0 C0) ∧ wr.frozen? ⟨g, k * 2 + 1, none⟩ = false ∧ Hid (wt[k]? = some x) ∧ (Lit.int .i64 x.1).wf = true ∧ Ints .u8 wr A0 L0 x.2 ∧ g ≠ b3 ∧ b3 < wr.heap.size ∧ g < wr.heap.size := by
              obtain ⟨hs', ht', o1, o2, h1', h2', g1, g2, b1, b2, hl, hb1⟩ := hT
              obtain ⟨g, C1, q, _, hgl⟩ := own_head o2 (by omega)
              cases q
              have hx : wt[k]? = some (wt[k]'(by have := hl2.out; omega)) := List.getElem?_eq_getElem _
              obtain ⟨q0, A0, L0, C0, q1, q2, q3⟩ := h2'.2 k _ hx
              have hc := own_cell (k := k * 2 + 1) o2 q2
              have hc0 := own_cell (k := k * 2) o2 q1
              exact ⟨g, A0, L0, C0, _, rfl, b1.c1, hc0.1, hc.1, hc.2, hx, q0, q3, fun q => own_box o2 b1 (by decide) (by rw [← q]; rfl), b1.lt, hgl⟩
            have hL0 : L0 ≤ 1000000 := by
              have := R2.out x (List.mem_of_getElem? hls.out)
              have := hI.len
              omega
            obtain ⟨at_, dat⟩ := x
            simp only at *
            have h9 : Below wr.heap.size wr (wr.alloc (.cells #[.int .i64 at_, .slice A0 L0 C0] 88)) := (Below.refl _ _).alloc (Nat.le_refl _) _
            have hl9 : wr.heap.size < (wr.alloc (.cells #[.int .i64 at_, .slice A0 L0 C0] 88)).heap.size := by simp
            have e9 : (wr.alloc (.cells #[.int .i64 at_, .slice A0 L0 C0] 88)).cell? ⟨wr.heap.size, 1, none⟩ = some (.slice A0 L0 C0) := cell_of_row _ _ _ _ _ (0, 0) (heap_alloc_new _ _)
            have hg9 : g ≠ wr.heap.size := by omega
            have hT := Lib.hid hT
            have hkn1 : (k : Int) < (m : Int) := by omega
            clear hwx
            have e0' := Lib.hid ((h9.cell (p := ⟨b3, 1, none⟩) hl3).trans e0)
            go_wp2
            clear e0
            have e0 := e0'.out
            clear e0'
            refine wp_region_held_drew (S := (fun W => W.cell? ⟨b3, 1, none⟩ = some (.slice (some ⟨g, 0, none⟩) m D') ∧ W.cell? ⟨wr.heap.size, 1, none⟩ = some (.slice A0 L0 C0))) (by kernel_rfl) ?_ (fun hHeld => ?_)
            · first | assumption | exact ⟨e0, e9⟩ | exact ⟨(hb5.cell (p := ⟨b3, 1, none⟩) (Nat.lt_trans hl3 hl9)).trans hHeld.1, (hb5.cell (p := ⟨wr.heap.size, 1, none⟩) hl9).trans hHeld.2⟩ | exact ⟨(World.cell?_setCell_other _ _ _ _ (fun q => hgb (congrArg Addr.block q))).trans hHeld.1, (World.cell?_setCell_other _ _ _ _ (fun q => hg9 (congrArg Addr.block q))).trans hHeld.2⟩
            refine wpAnyH_take (i := 0) (v := ?_) rfl (by kernel_rfl) (by kernel_rfl) (by kernel_rfl) (fun _ _ _ h => h) (Or.inl ⟨by rfl, ?_⟩) (by assumption) ?_
            rotate_left
            · (intro w hSw; (try dsimp only at hSw); go_simp; try with_reducible rfl)
            try simp only [Act.put, List.setIfInBounds_toArray]
            refine wpAnyH_take (i := 1) (v := ?_) rfl (by kernel_rfl) (by kernel_rfl) (by kernel_rfl) (fun _ _ _ h => h) (Or.inl ⟨by rfl, ?_⟩) (by assumption) ?_
            rotate_left
            · (intro w hSw; (try dsimp only at hSw); go_simp; try with_reducible rfl)
            try simp only [Act.put]
            refine wpAnyH_take (i := 2) (v := ?_) rfl (by kernel_rfl) (by kernel_rfl) (by kernel_rfl) (fun _ _ _ h => h) (Or.inl ⟨by rfl, ?_⟩) (by assumption) ?_
            rotate_left
            · (intro w hSw; (try dsimp only at hSw); go_simp; try with_reducible rfl)
            try simp only [Act.put]
            refine wpAnyH_take (i := 3) (v := ?_) rfl (by kernel_rfl) (by kernel_rfl) (by kernel_rfl) (fun _ _ _ h => h) (Or.inl ⟨by rfl, ?_⟩) (by assumption) ?_
            rotate_left
            · (intro w hSw; (try dsimp only at hSw); go_simp; try with_reducible rfl)
            try simp only [Act.put]
            refine wpAnyH_take (i := 4) (v := ?_) rfl (by kernel_rfl) (by kernel_rfl) (by kernel_rfl) (fun _ _ _ h => h) (Or.inl ⟨by rfl, ?_⟩) (by assumption) ?_
            rotate_left
            · (intro w hSw; (try dsimp only at hSw); go_simp; try with_reducible rfl)
            try simp only [Act.put]
            refine wpAnyH_ready (rs := [5]) (by kernel_rfl) (by simp) ?_
            refine AllReadyH.cons rfl (fun K hK => ?_) AllReadyH.nil
            go_simp
            refine (bytes_clone A0 L0 C0 dat _ ((hI.below h9 (Nat.le_refl _)).below (Below.refl _ _).drew (Nat.le_refl _)) hL0).mono ?_
            rintro e w5 ⟨v5, rfl, hF, hb5⟩
            obtain ⟨A5, L5, C5, rfl, hF'⟩ : ∃ A5 L5 C5, v5 = .slice A5 L5 C5 ∧ Hid (Fresh (wr.alloc (.cells #[.int .i64 at_, .slice A0 L0 C0] 88)).heap.size w5 v5 dat) := by obtain ⟨a, b, c, e, _⟩ := id hF; exact ⟨a, b, c, e, hF⟩
            have f1 := (hb5.cell (p := ⟨g, k * 2 + 1, none⟩) (Nat.lt_trans hgl hl9)).trans ((h9.cell (p := ⟨g, k * 2 + 1, none⟩) hgl).trans hcell)
            have r1 := (hb5.frozen (p := ⟨g, k * 2 + 1, none⟩) (Nat.lt_trans hgl hl9)).trans ((h9.frozen (p := ⟨g, k * 2 + 1, none⟩) hgl).trans hfr)
            clear hF
            go_wp2_with fail
            refine hK.out _ _ ?_ (fun hHeld2 => ?_)
            · first | assumption | exact ⟨e0, e9⟩ | exact ⟨(hb5.cell (p := ⟨b3, 1, none⟩) (Nat.lt_trans hl3 hl9)).trans hHeld.1, (hb5.cell (p := ⟨wr.heap.size, 1, none⟩) hl9).trans hHeld.2⟩ | exact ⟨(World.cell?_setCell_other _ _ _ _ (fun q => hgb (congrArg Addr.block q))).trans hHeld.1, (World.cell?_setCell_other _ _ _ _ (fun q => hg9 (congrArg Addr.block q))).trans hHeld.2⟩
            clear hK K hHeld
            have hHeld := hHeld2
            clear hHeld2
            try simp only [Act.put, List.setIfInBounds_toArray, List.set_cons_zero, List.set_cons_succ]
            refine wpAnyH_ready (rs := [6]) (by kernel_rfl) (by simp) ?_
            refine AllReadyH.cons rfl (fun K hK => ?_) AllReadyH.nil
            go_simp
            refine hK.out _ _ ?_ (fun hHeld2 => ?_)
            · first | assumption | exact ⟨e0, e9⟩ | exact ⟨(hb5.cell (p := ⟨b3, 1, none⟩) (Nat.lt_trans hl3 hl9)).trans hHeld.1, (hb5.cell (p := ⟨wr.heap.size, 1, none⟩) hl9).trans hHeld.2⟩ | exact ⟨(World.cell?_setCell_other _ _ _ _ (fun q => hgb (congrArg Addr.block q))).trans hHeld.1, (World.cell?_setCell_other _ _ _ _ (fun q => hg9 (congrArg Addr.block q))).trans hHeld.2⟩
            clear hK K hHeld
            have hHeld := hHeld2
            clear hHeld2
            try simp only [Act.put, List.setIfInBounds_toArray, List.set_cons_zero, List.set_cons_succ]
            refine wpAnyH_ready (rs := [7]) (by kernel_rfl) (by simp) ?_
            refine AllReadyH.cons rfl (fun K hK => ?_) AllReadyH.nil
            go_simp
            refine hK.out _ _ ?_ (fun hHeld2 => ?_)
            · first | assumption | exact ⟨e0, e9⟩ | exact ⟨(hb5.cell (p := ⟨b3, 1, none⟩) (Nat.lt_trans hl3 hl9)).trans hHeld.1, (hb5.cell (p := ⟨wr.heap.size, 1, none⟩) hl9).trans hHeld.2⟩ | exact ⟨(World.cell?_setCell_other _ _ _ _ (fun q => hgb (congrArg Addr.block q))).trans hHeld.1, (World.cell?_setCell_other _ _ _ _ (fun q => hg9 (congrArg Addr.block q))).trans hHeld.2⟩
            clear hK K hHeld
            have hHeld := hHeld2
            clear hHeld2
            try simp only [Act.put, List.setIfInBounds_toArray, List.set_cons_zero, List.set_cons_succ]
            refine wpAnyH_ready (rs := [8]) (by kernel_rfl) (by simp) ?_
            refine AllReadyH.cons rfl (fun K hK => ?_) AllReadyH.nil
            go_simp
            refine hK.out _ _ ?_ (fun hHeld2 => ?_)
            · first | assumption | exact ⟨e0, e9⟩ | exact ⟨(hb5.cell (p := ⟨b3, 1, none⟩) (Nat.lt_trans hl3 hl9)).trans hHeld.1, (hb5.cell (p := ⟨wr.heap.size, 1, none⟩) hl9).trans hHeld.2⟩ | exact ⟨(World.cell?_setCell_other _ _ _ _ (fun q => hgb (congrArg Addr.block q))).trans hHeld.1, (World.cell?_setCell_other _ _ _ _ (fun q => hg9 (congrArg Addr.block q))).trans hHeld.2⟩
            clear hK K hHeld
            have hHeld := hHeld2
            clear hHeld2
            try simp only [Act.put, List.setIfInBounds_toArray, List.set_cons_zero, List.set_cons_succ]
            refine wpAnyH_done (by kernel_rfl) ?_ _
            have hN := Lib.hid (TwinW.next hT.out (h9.trans (((Below.refl _ _).drew.trans (hb5.mono (Nat.le_refl _))).mono (Nat.le_of_lt hl9))) (hF'.out.mono (Nat.le_of_lt hl9)) hls.out hkn rfl)
            clear hT hHeld hF' f1 r1 hb5 h9 e9
            go_wp2
            go_roundw
            case rel => exact ⟨k + 1, by omega, by go_num, hN.out⟩
            case measure => simp [intOf]; omega
          · obtain rfl : m = k := by omega
            have hbx : BoxD wr b3 (.slice A' n C') (.slice B' m D') (.bool dd) ∧ BoxD wr (w.heap.size + 1) (.slice none 0 0) (.slice none 0 0) (.bool false) := by
              obtain ⟨_, _, _, _, _, _, _, _, b1, b2, _⟩ := hT
              exact ⟨b1, b2⟩
            obtain ⟨bb1, bb2⟩ := hbx
            have hD := Lib.hid (hT.done hkm (by omega))
            have hBW := Lib.hid (show Below w.heap.size w wr by obtain ⟨_, _, _, _, _, _, _, _, _, _, _, q⟩ := hT; exact q)
            have f0 := bb1.c0
            have f1 := bb1.c1
            have f2 := bb1.c2
            have p0 := bb2.c0
            have p1 := bb2.c1
            have p2 := bb2.c2
            have r0 := bb2.fr (o := 0)
            have r1 := bb2.fr (o := 1)
            have r2 := bb2.fr (o := 2)
            clear hT
            go_wp2
            have hK := DevN.setBox3 hD.out bb2 (.slice A' n C') (.slice B' m D') (.bool dd)
            exact bodyPost_ret (v := .agg #[.slice A' n C', .slice B' m D', .bool dd]) (by simp [results, Try.results28, go_sem, p0, p1, p2]) rfl ⟨_, rfl, hK.1, ((hBW.out.setCell (by simp) _).setCell (by simp) _).setCell (by simp) _⟩
end Go.Proofs.Ytldgpkaecfgagaa
