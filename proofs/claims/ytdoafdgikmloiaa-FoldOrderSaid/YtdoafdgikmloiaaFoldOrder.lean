/- freeboardlaw03.FoldOrder: for every input the law answers true, and what is handed in reads as it did. Conditions: none. -/
import Derived.Test.YtdoafdgikmloiaaFoldLaws
namespace Go.Proofs.Ytdoafdgikmloiaa
open Go.ChangeShapes Go.WideShapes Go.ChangeAt Go.RowKit PolyM PackM FoldM
theorem order_out (w : World) (a : Option Addr) (na ca : Nat) (hs : List Value) (ls : List (List Int)) (p q : Int) (ha : Slab w a na hs ls) (h : Great ls ∨ ¬ Great ls ∧ (p < 0 ∨ 0 ≤ p ∧ (na ≤ p ∨ p < na ∧ (q < 0 ∨ 0 ≤ q ∧ na ≤ q)))) :
    Calls Try.prog 6 #[.slice a na ca, .int .i64 p, .int .i64 q] w fun e w' => e = .returned (.bool true) ∧ Below w.heap.size w w' := by
  have hm := ha.max
  have cg := fun W (hW : Slab W a na hs ls) => great_calls a na ca hs ls W hW
  rcases h with hG | ⟨hG, h1 | ⟨h1, h2 | ⟨h2, h3 | ⟨h3, h4⟩⟩⟩⟩
  case' inl => rw [decide_eq_true hG] at cg
  case' inr.inl => rw [decide_eq_false hG] at cg
  case' inr.inr.inl => rw [decide_eq_false hG] at cg
  case' inr.inr.inr.inl => rw [decide_eq_false hG] at cg
  case' inr.inr.inr.inr => rw [decide_eq_false hG] at cg
  all_goals
    clear hG
    go_enter Try.func6, Try.ntmps6
    go_wp2_with fail
    refine (alive_calls _).mono ?_
    rintro e w1 ⟨rfl, hb1⟩
    go_wp2_with fail
    refine (cg _ (ha.below hb1 (Nat.le_refl _))).mono ?_
    rintro e w2 ⟨rfl, rfl⟩
    clear cg
    go_wp2
    go_ret
    exact ⟨rfl, hb1⟩
theorem order_slab {w1 w2 : World} {a A1 A2 : Option Addr} {g na C P Q L1 L2 : Nat} {hs : List Value} {ls : List (List Int)} {xs ys : List Int} (own3 : w2.ownsRow w1.heap.size 22 1 (.slice (some ⟨g, 0, none⟩) na C) na hs) (hb2 : Below w1.heap.size w1 w2) (h1 : Slab w1 a na hs ls)
    (hi1 : Ints .u8 w1 A1 L1 xs) (hi2 : Ints .u8 w1 A2 L2 ys) (hg : w1.heap.size ≤ g) (C1 C2 : Nat) :
    Below w1.heap.size w1 ((w2.setCell ⟨g, P, none⟩ (.slice A2 L2 C2)).setCell ⟨g, Q, none⟩ (.slice A1 L1 C1)).drew ∧ ∃ hs', Slab ((w2.setCell ⟨g, P, none⟩ (.slice A2 L2 C2)).setCell ⟨g, Q, none⟩ (.slice A1 L1 C1)).drew (some ⟨g, 0, none⟩) na hs' ((ls.set P ys).set Q xs) := by
  have hb : Below w1.heap.size w1 ((w2.setCell ⟨g, P, none⟩ (.slice A2 L2 C2)).setCell ⟨g, Q, none⟩ (.slice A1 L1 C1)).drew := ((hb2.setCell hg _).setCell hg _).drew
  refine ⟨hb, (hs.set P (.slice A2 L2 C2)).set Q (.slice A1 L1 C1), ?_⟩
  have own4 := own_below (own_set (k := Q) (own_set (k := P) own3 (.slice A2 L2 C2)) (.slice A1 L1 C1)) (Below.refl _ _).drew
  have hd := ((h1.each.below hb (Nat.le_refl _)).set P (C := C2) (hi2.below hb (Nat.le_refl _))).set Q (C := C1) (hi1.below hb (Nat.le_refl _))
  obtain ⟨A, c, e, hS⟩ := own_slab own4 hd h1.max
  cases e
  exact hS
set_option maxRecDepth 100000 in
set_option maxHeartbeats 2000000 in
theorem foldOrder_walk (w : World) (a : Option Addr) (na ca : Nat) (hs : List Value) (ls : List (List Int)) (ha : Slab w a na hs ls) (hca : na ≤ ca) (p : Int) (wp : (Lit.int .i64 p).wf = true) (q : Int) (wq : (Lit.int .i64 q).wf = true) :
    Calls Try.prog 6 #[.slice a na ca, .int .i64 p, .int .i64 q] w fun e w' => e = .returned (.bool true) ∧ Below w.heap.size w w' := by
  by_cases h : Great ls ∨ ¬ Great ls ∧ (p < 0 ∨ 0 ≤ p ∧ (na ≤ p ∨ p < na ∧ (q < 0 ∨ 0 ≤ q ∧ na ≤ q)))
  · exact order_out w a na ca hs ls p q ha h
  obtain ⟨hG, hp0, hpn, hq0, hqn⟩ : ¬ Great ls ∧ 0 ≤ p ∧ p < na ∧ 0 ≤ q ∧ q < na := by
    refine ⟨fun g => h (.inl g), ?_⟩
    have h2 : ¬ (p < 0 ∨ 0 ≤ p ∧ (na ≤ p ∨ p < na ∧ (q < 0 ∨ 0 ≤ q ∧ na ≤ q))) := fun g => h (.inr ⟨fun g => h (.inl g), g⟩)
    omega
  clear h
  obtain ⟨P, rfl⟩ := Int.eq_ofNat_of_zero_le hp0
  obtain ⟨Q, rfl⟩ := Int.eq_ofNat_of_zero_le hq0
  have hP : P < na := by omega
  have hQ : Q < na := by omega
  obtain ⟨hn, _⟩ := not_great ha.len hG
  obtain ⟨j0, hj0, jz0, jz1, jz2⟩ := info_parts hdr_info
  have hm := ha.max
  have cg := fun W (hW : Slab W a na hs ls) => great_calls a na ca hs ls W hW
  rw [decide_eq_false hG] at cg
  clear hG
  go_enter Try.func6, Try.ntmps6
  go_wp2_with fail
  refine (alive_calls _).mono ?_
  rintro e w1 ⟨rfl, hb1⟩
  have h1 := ha.below hb1 (Nat.le_refl _)
  go_wp2_with fail
  refine (cg _ h1).mono ?_
  rintro e w2 ⟨rfl, rfl⟩
  clear cg
  have hr1 := h1.row
  go_wp2_with (at_builtin; refine wpList_append_row _ rfl (.const (.slice none 0 0)) (.tmp 37) _ rfl w1.heap.size 22 j0 _ 1 24 Try.underlying27 hj0 jz0 jz1 jz2 rfl (by omega) (.slice none 0 0) 0 [] rfl (World.ownsRow_nil _ _ _ _) a na ca _ rfl hr1 h1.each.one_cell (by simp only [maxLen]; omega) (by omega) (Nat.le_refl _) ?_; intro v2 w2 own2 hg2 _; obtain ⟨hb2, own3, hd3⟩ := copied h1 own2 hg2; clear own2 hg2)
  obtain ⟨g, C, cur, rfl, hg, -, -, -, -⟩ := own_cells own3 (by omega)
  obtain ⟨b, off, A1, L1, C1, xs, rfl, hlt, hh1, hx, hc1, hi1⟩ := h1.at hP
  obtain ⟨b', off', A2, L2, C2, ys, e', hlt', hh2, hy, hc2, hi2⟩ := h1.at hQ
  cases e'
  have k1 : w2.cell? ⟨b, off + P, none⟩ = some (.slice A1 L1 C1) := by rw [hb2.cell (p := ⟨b, off + P, none⟩) hlt]; exact hc1
  have k2 : w2.cell? ⟨b, off + Q, none⟩ = some (.slice A2 L2 C2) := by rw [hb2.cell (p := ⟨b, off + Q, none⟩) hlt]; exact hc2
  obtain ⟨m1, f1⟩ := own_cell own3 hh1
  obtain ⟨m2, f2⟩ := own_cell own3 hh2
  have X := Lib.hid (And.intro own3 (And.intro hx hy))
  have I := Lib.hid (And.intro hi1 (And.intro hi2 h1))
  clear own3 hd3 hr1 h1 hc1 hc2 hh1 hh2 hx hy hi1 hi2
  by_cases hPQ : P = Q
  case' pos =>
    subst hPQ
    go_region
    have T := order_slab (P := P) (Q := P) X.out.1 hb2 I.out.2.2 I.out.1 I.out.1 hg C1 C1
    have E : Hid (∃ xs' ys', ls[P]? = some xs' ∧ ls[P]? = some ys' ∧ (ls.set P xs).set P xs = (ls.set P ys').set P xs') := Lib.hid ⟨xs, xs, X.out.2.1, X.out.2.1, rfl⟩
  case' neg =>
    have hbg : b ≠ g := by omega
    go_region
    have T := order_slab (P := P) (Q := Q) X.out.1 hb2 I.out.2.2 I.out.1 I.out.2.1 hg C1 C2
    have E : Hid (∃ xs' ys', ls[P]? = some xs' ∧ ls[Q]? = some ys' ∧ (ls.set P ys).set Q xs = (ls.set P ys').set Q xs') := Lib.hid ⟨xs, ys, X.out.2.1, X.out.2.2, rfl⟩
  all_goals
    have hl1 := Lib.hid I.out.2.2
    clear I X
    generalize World.drew _ = w3 at *
    obtain ⟨hb3, hs', hS⟩ := T
    obtain ⟨xs', ys', e1, e2, e3⟩ := E.out
    rw [e3] at hS
    have hl3 := hl1.out.below hb3 (Nat.le_refl _)
    have hB := foldL_bytes hl3.each.bytes
    clear E e3 hl1 k1 k2 m1 m2 f1 f2 hb2
    have hb4 := hb1.trans (hb3.mono hb1.size)
    by_cases hc : code ls = 0
    · have hc2 := (code_order e1 e2).trans hc
      go_wp2_with fail
      refine (fold_ok hl3 hc).mono ?_
      rintro e w4 ⟨g1, hg1, rfl, hgc1, hb5⟩
      go_wp2_with fail
      refine (fold_ok (hS.below hb5 (Nat.le_refl _)) hc2).mono ?_
      rintro e w5 ⟨g2, hg2, rfl, hgc2, hb6⟩
      rw [fold_order e1 e2] at hgc2
      have t1 := block_text hgc1 (foldL_len _) hB (Nat.le_refl _) hb6
      have t2 := block_text hgc2 (foldL_len _) hB (Nat.le_refl _) (Below.refl _ _)
      clear hgc1 hgc2 hS e1 e2 hl3 hc hc2
      go_wp2
      go_ret
      exact ⟨rfl, hb4.trans ((hb5.trans (hb6.mono hb5.size)).mono hb4.size)⟩
    · have hce := code_order e1 e2
      have nt := fun W => nil_text W 0
      have hne : (code ls == code ls) = true := by simp
      go_wp2_with fail
      refine (fold_no hl3 hc).mono ?_
      rintro e w4 ⟨rfl, hb5⟩
      go_wp2_with fail
      refine (fold_no (hS.below hb5 (Nat.le_refl _)) (by rw [hce]; exact hc)).mono ?_
      rintro e w5 ⟨rfl, hb6⟩
      rw [hce]
      clear hS e1 e2 hl3 hc hce
      go_wp2
      go_ret
      exact ⟨rfl, hb4.trans ((hb5.trans (hb6.mono hb5.size)).mono hb4.size)⟩

namespace foldOrder
set_option linter.unusedVariables false
set_option maxRecDepth 100000 in
theorem lifted (os : Os) (started : os.Started) (H : Type) (enc : TypeId × Value → H) :
    ReturnsInHanded {} Try.checked os 6 .any (Rows.foldOrderSpec.pre6 enc Try.prog Try.f6 Rows.foldOrderRow.domain false) (Rows.foldOrderSpec.post enc Try.prog Try.f6 false true false false) := by
  refine returnsInHanded_of_change (C := Try.checked) Try.own started (by kernel_rfl) Try.func6
    (ChangeSpec.witness6 (enc := enc) (C := Try.checked) false ⟨#[], #[.slice none 0 0, .int .i64 0, .int .i64 0], []⟩ 8 (by kernel_rfl) (by kernel_rfl) (by kernel_rfl) (by kernel_rfl)) ?_
  intro W base args ds gs before hval0 hW hcnd _
  have hval : ∀ (j : Nat) t v, Try.f6.params[j]? = some t → args[j]? = some v → Value.okWide Try.prog W .any base t v := hval0
  have hW' := hW
  obtain ⟨p, q, hA0, hV, rfl, hfz, hnd⟩ := hW
  have hA : DataW.TrodAll enc Try.prog W 0 (fun _ => true) true Try.f6.params.toList args.toList ds p := hA0
  rw [Try.params6] at hA hval
  obtain ⟨v0, vs0, d0, ds0, p0, q0, hargs, rfl, rfl, h0, r0⟩ := trodAll_cons hA
  obtain ⟨v1, vs1, d1, ds1, p1, q1, rfl, rfl, rfl, h1, r1⟩ := trodAll_cons r0
  obtain ⟨v2, vs2, d2, ds2, p2, q2, rfl, rfl, rfl, h2, r2⟩ := trodAll_cons r1
  obtain ⟨rfl, rfl, rfl⟩ := trodAll_nil r2
  obtain rfl : args = #[v0, v1, v2] := by cases args; simp_all
  obtain ⟨rfl, rfl⟩ := trodVars_none hV
  obtain ⟨a0, len0, cap0, rfl⟩ := okWide_slice Try.underlying27 (hval 0 27 v0 rfl rfl)
  have k0 := h0
  have lt0 : ∀ x ∈ p0, x.block < W.heap.size := by obtain ⟨m, hm⟩ := k0; exact DataW.trod_lt m _ _ _ hm
  obtain ⟨s0, z0, w0, c0⟩ : ∃ hs ls, Slab W a0 len0 hs ls ∧ len0 ≤ cap0 := by
    obtain ⟨fuel, hf⟩ := h0
    exact open_slab Try.underlying27 Try.underlying22 Try.underlying5 (by kernel_rfl) (by kernel_rfl) hf
  obtain ⟨a1, rfl, rfl, rfl, w1⟩ := open_int Try.underlying3 (hval 1 3 v1 rfl rfl) h1
  obtain ⟨a2, rfl, rfl, rfl, w2⟩ := open_int Try.underlying3 (hval 2 3 v2 rfl rfl) h2
  clear hA0 hval0
  refine (foldOrder_walk W a0 len0 cap0 s0 z0 w0 c0 a1 w1 a2 w2).mono fun e W' ⟨he, bel⟩ => ?_
  subst he
  exact ⟨_, rfl, _, _, _, [], _, [], hW', trodAll_mk1 (shut_bool Try.underlying4 _), (trodAll_cons_mk (Below.trod Try.laidOut (by kernel_rfl) (of_decide_eq_true (by kernel_rfl)) k0 bel lt0) (trodAll_cons_mk (shut_int Try.underlying3 w1) (trodAll_cons_mk (shut_int Try.underlying3 w2) trodAll_mk0))), rfl, bel.frame _, fun h => by cases h⟩

theorem holds : Rows.FoldOrderSaid :=
  OpenClaim.holds_of_wide 6 Try.f6 rfl rfl rfl rfl rfl rfl rfl ⟨rfl, rfl, rfl, rfl, rfl⟩ rfl rfl rfl rfl rfl (by kernel_rfl) Try.func6 (by kernel_rfl)
    (of_decide_eq_true (by kernel_rfl)) (by unfold Func.isWrapper; first | (rw [if_pos (by decide +kernel)]; kernel_rfl) | (rw [if_neg (by decide +kernel)]; exact ⟨rfl, rfl⟩))
    (fun os started H enc _ => lifted os started H enc)
end foldOrder
end Go.Proofs.Ytdoafdgikmloiaa
