/- freeboardlaw03.FoldTwice: for every input the law answers true, and what is handed in reads as it did. Conditions: none. -/
import Derived.Test.YtdoafdgikmloiaaFoldLaws
namespace Go.Proofs.Ytdoafdgikmloiaa
open Go.ChangeShapes Go.WideShapes Go.ChangeAt Go.RowKit PolyM PackM FoldM
theorem twice_out (w : World) (a b : Option Addr) (na ca nb cb : Nat) (hs : List Value) (ls : List (List Int)) (ha : Slab w a na hs ls) (hm : nb ≤ 9223372036854775807) (h : Great ls ∨ ¬ Great ls ∧ (1000 : Int) < nb) :
    Calls Try.prog 9 #[.slice a na ca, .slice b nb cb] w fun e w' => e = .returned (.bool true) ∧ Below w.heap.size w w' := by
  have cg := fun W (hW : Slab W a na hs ls) => great_calls a na ca hs ls W hW
  rcases h with hG | ⟨hG, hG'⟩
  case' inl => rw [decide_eq_true hG] at cg
  case' inr => rw [decide_eq_false hG] at cg
  all_goals
    clear hG
    go_enter Try.func9, Try.ntmps9
    go_wp2_with fail
    refine (alive_calls _).mono ?_
    rintro e w1 ⟨rfl, hb1⟩
    go_wp2_with fail
    refine (cg _ (ha.below hb1 (Nat.le_refl _))).mono ?_
    rintro e w2 ⟨rfl, rfl⟩
    clear cg
    go_wp2
    go_ret
    exact ⟨rfl, hb1⟩
/-- The cases of the law's end. -/
theorem twice_cases (l : List (List Int)) (b : List Int) : (code l ≠ 0 ∧ code (l ++ [b, b]) ≠ 0 ∧ code (l ++ [[]]) ≠ 0) ∨
    (code l = 0 ∧ l.length < 16 ∧ code (l ++ [[]]) = 0 ∧ res (l ++ [[]]) = res l ∧ code (l ++ [b, b]) = 0 ∧ res (l ++ [b, b]) = res l) ∨
    (code l = 0 ∧ l.length < 16 ∧ code (l ++ [[]]) = 0 ∧ res (l ++ [[]]) = res l ∧ code (l ++ [b, b]) = 3 ∧ l.length ≤ 14 ∧ b.length ≠ 0 ∧ b.length ≠ 128) ∨
    (code l = 0 ∧ l.length < 16 ∧ code (l ++ [[]]) = 0 ∧ res (l ++ [[]]) = res l ∧ code (l ++ [b, b]) = 4 ∧ 14 < l.length) ∨
    (code l = 0 ∧ 16 ≤ l.length ∧ code (l ++ [b, b]) = 4 ∧ 14 < l.length) := by
  have hbl : Blks (l ++ [b, b]) ↔ Blks l ∧ Blk b := by
    rw [blks_append]
    refine ⟨fun h => ⟨h.1, h.2 b (by simp)⟩, fun h => ⟨h.1, fun x hx => ?_⟩⟩
    simp at hx; rw [hx]; exact h.2
  have hnl : Blks (l ++ [[]]) ↔ Blks l := by
    rw [blks_append]
    refine ⟨fun h => h.1, fun h => ⟨h, fun x hx => ?_⟩⟩
    simp at hx; rw [hx]; exact .inl rfl
  by_cases h0 : code l = 0
  · right
    obtain ⟨h1, h2⟩ := code_zero.1 h0
    by_cases h16 : l.length < 16
    · have e1 : code (l ++ [[]]) = 0 := code_zero.2 ⟨by simp; omega, hnl.2 h2⟩
      have e2 : res (l ++ [[]]) = res l := by unfold res; rw [if_pos e1, if_pos h0, fold_none]
      by_cases h14 : l.length ≤ 14
      · by_cases hb : Blk b
        · have e3 : code (l ++ [b, b]) = 0 := code_zero.2 ⟨by simp; omega, hbl.2 ⟨h2, hb⟩⟩
          exact .inl ⟨h0, h16, e1, e2, e3, by unfold res; rw [if_pos e3, if_pos h0, fold_twice]⟩
        · refine .inr (.inl ⟨h0, h16, e1, e2, ?_, h14, fun q => hb (.inl q), fun q => hb (.inr q)⟩)
          unfold code
          rw [if_neg (by simp; omega), if_neg (fun q => hb (hbl.1 q).2)]
      · refine .inr (.inr (.inl ⟨h0, h16, e1, e2, ?_, by omega⟩))
        unfold code
        rw [if_pos (by simp; omega)]
    · refine .inr (.inr (.inr ⟨h0, by omega, ?_, by omega⟩))
      unfold code
      rw [if_pos (by simp; omega)]
  · left
    refine ⟨h0, fun q => ?_, fun q => ?_⟩
    · obtain ⟨q1, q2⟩ := code_zero.1 q
      rw [List.length_append] at q1
      exact h0 (code_zero.2 ⟨by omega, (hbl.1 q2).1⟩)
    · obtain ⟨q1, q2⟩ := code_zero.1 q
      rw [List.length_append] at q1
      exact h0 (code_zero.2 ⟨by omega, hnl.1 q2⟩)
set_option maxRecDepth 100000 in
set_option maxHeartbeats 4000000 in
theorem foldTwice_walk (w : World) (a : Option Addr) (na ca : Nat) (hs : List Value) (ls : List (List Int)) (ha : Slab w a na hs ls) (hca : na ≤ ca) (b : Option Addr) (nb cb : Nat) (zs : List Int) (hb : Ints .u8 w b nb zs) (hcb : nb ≤ cb) :
    Calls Try.prog 9 #[.slice a na ca, .slice b nb cb] w fun e w' => e = .returned (.bool true) ∧ Below w.heap.size w w' := by
  have hmb := hb.max
  by_cases h : Great ls ∨ ¬ Great ls ∧ (1000 : Int) < nb
  · exact twice_out w a b na ca nb cb hs ls ha hmb h
  have hG : ¬ Great ls := fun g => h (.inl g)
  have hG' : ¬ ((1000 : Int) < nb) := fun g => h (.inr ⟨hG, g⟩)
  clear h
  obtain ⟨hna, _⟩ := not_great ha.len hG
  obtain ⟨j0, hj0, jz0, jz1, jz2⟩ := info_parts hdr_info
  have hma := ha.max
  have cg := fun W (hW : Slab W a na hs ls) => great_calls a na ca hs ls W hW
  rw [decide_eq_false hG] at cg
  have hnb : (nb : Int) ≤ 1000 := by omega
  clear hG hG'
  have tc := twice_cases ls zs
  rw [ha.len, hb.len] at tc
  have TC := Lib.hid tc
  have BA := Lib.hid ha.each.bytes
  have BB := Lib.hid (bytes_of hb)
  have A0 := Lib.hid ha
  have B0 := Lib.hid hb
  clear ha hb tc
  go_enter Try.func9, Try.ntmps9
  go_wp2_with fail
  refine (alive_calls _).mono ?_
  rintro e w1 ⟨rfl, hb1⟩
  go_wp2_with fail
  refine (cg _ (A0.out.below hb1 (Nat.le_refl _))).mono ?_
  rintro e w2 ⟨rfl, rfl⟩
  clear cg
  go_wp2_with fail
  refine (fold_v (A0.out.below hb1 (Nat.le_refl _))).mono ?_
  rintro e w2 ⟨v1, rfl, hb2, V1⟩
  have hb2' := hb1.trans (hb2.mono hb1.size)
  have V1' := Lib.hid V1
  have hA := A0.out.below hb2' (Nat.le_refl _)
  have hB := B0.out.below hb2' (Nat.le_refl _)
  have hrA := hA.row
  clear V1
  go_wp2_with (first
    | (at_builtin; refine wpList_append_row _ rfl (.const (.slice none 0 0)) (.tmp 27) _ rfl w2.heap.size 22 j0 _ 1 24 Try.underlying27 hj0 jz0 jz1 jz2 rfl (by omega) (.slice none 0 0) 0 [] rfl (World.ownsRow_nil _ _ _ _) a na ca _ rfl hrA hA.each.one_cell (by simp only [maxLen]; omega) (by omega) (Nat.le_refl _) ?_; intro v4 w4 own2 hg2 _; obtain ⟨hb4, own3, hr3⟩ := copied_box hA own2 hg2 [.slice b nb cb, .slice b nb cb])
    | (at_builtin; refine wpList_append_row _ rfl (.tmp 28) (.tmp 31) _ rfl w2.heap.size 22 j0 _ 1 24 Try.underlying27 hj0 jz0 jz1 jz2 rfl (by omega) v4 na hs rfl own3 (some ⟨w4.heap.size, 0, none⟩) 2 2 [.slice b nb cb, .slice b nb cb] rfl hr3 (by simp [Value.oneCell']) (by simp only [maxLen]; omega) (by omega) hb4.size ?_; intro v5 w5 own5 hg5 _; obtain ⟨hb5, A5, C5, rfl, hS⟩ := appended own3 hb4 own5 hg5 hA.each ((Hdrs.one hB).append (Hdrs.one hB)) (by omega)))
  refine (fold_v hS).mono ?_
  rintro e w6 ⟨v2, rfl, hb6, V2⟩
  have V2' := Lib.hid V2
  have hb26 := hb5.trans (hb6.mono hb5.size)
  have hb6' := hb2'.trans (hb26.mono hb2'.size)
  have hA6 := A0.out.below hb6' (Nat.le_refl _)
  have hrA6 := hA6.row
  clear V2 hA hB hrA own2 hg2 own3 hr3 hb4 own5 hg5 hS hb5 hb6
  go_wp2_with (first
    | (at_builtin; refine wpList_append_row _ rfl (.const (.slice none 0 0)) (.tmp 37) _ rfl w6.heap.size 22 j0 _ 1 24 Try.underlying27 hj0 jz0 jz1 jz2 rfl (by omega) (.slice none 0 0) 0 [] rfl (World.ownsRow_nil _ _ _ _) a na ca _ rfl hrA6 hA6.each.one_cell (by simp only [maxLen]; omega) (by omega) (Nat.le_refl _) ?_; intro v7 w7 own7 hg7 _; obtain ⟨hb7, own8, hr8⟩ := copied_box hA6 own7 hg7 [.slice none 0 0])
    | (at_builtin; refine wpList_append_row _ rfl (.tmp 38) (.tmp 39) _ rfl w6.heap.size 22 j0 _ 1 24 Try.underlying27 hj0 jz0 jz1 jz2 rfl (by omega) v7 na hs rfl own8 (some ⟨w7.heap.size, 0, none⟩) 1 1 [.slice none 0 0] rfl hr8 (by simp [Value.oneCell']) (by simp only [maxLen]; omega) (by omega) hb7.size ?_; intro v8 w8 own9 hg9 _; obtain ⟨hb9, A9, C9, rfl, hS9⟩ := appended own8 hb7 own9 hg9 hA6.each (Hdrs.one (nil_ints _ _)) (by omega)))
  refine (fold_v hS9).mono ?_
  rintro e w10 ⟨v3, rfl, hb10, V3⟩
  have hb610 := hb9.trans (hb10.mono hb9.size)
  have hbE := hb6'.trans (hb610.mono hb6'.size)
  have t1 := V1'.out.text BA.out (hb26.trans (hb610.mono hb26.size))
  have t2 := V2'.out.text (fun x hx => by
    rcases List.mem_append.1 hx with q | q
    · exact BA.out x q
    · simp at q; rw [q]; exact BB.out) hb610
  have t3 := V3.text (fun x hx => by
    rcases List.mem_append.1 hx with q | q
    · exact BA.out x q
    · simp at q; rw [q]; intro z hz; cases hz) (Below.refl _ _)
  clear V1' V2' V3 hA6 hrA6 own7 hg7 own8 hr8 hb7 own9 hg9 hS9 hb9 hb10 hb610 hb6' hb26 hb2' hb2 hb1
  rw [show res (ls ++ ([zs] ++ [zs])) = res (ls ++ [zs, zs]) from rfl] at t2
  rcases TC.out with ⟨q1, q2, q3⟩ | ⟨q1, l1, q3, r3, q2, r2⟩ | ⟨q1, l1, q3, r3, q2, l2, n0, n1⟩ | ⟨q1, l1, q3, r3, q2, l2⟩ | ⟨q1, l1, q2, l2⟩
  · obtain ⟨-, p1⟩ := code_ne q1
    obtain ⟨-, p2⟩ := code_ne q2
    obtain ⟨-, p3⟩ := code_ne q3
    clear q1 q2 q3 TC t1 t2 t3
    go_wp2
    go_ret
    exact ⟨rfl, hbE⟩
  · rw [r3] at t3
    rw [r2] at t2
    rw [q1, q2, q3]
    have l1' : (na : Int) < 16 := by omega
    clear TC q1 q2 q3 r2 r3 l1
    go_wp2
    go_ret
    exact ⟨rfl, hbE⟩
  · rw [r3] at t3
    rw [q1, q2, q3]
    have l1' : (na : Int) < 16 := by omega
    have l2' : (na : Int) ≤ 14 := by omega
    have d0 : ((nb : Int) != 0) = true := by simp; omega
    have d1 : ((nb : Int) != 128) = true := by simp; omega
    clear TC q1 q2 q3 r3 l1 l2 n0 n1 t2
    go_wp2
    go_ret
    exact ⟨rfl, hbE⟩
  · rw [r3] at t3
    rw [q1, q2, q3]
    have l1' : (na : Int) < 16 := by omega
    have l2' : (14 : Int) < (na : Int) := by omega
    clear TC q1 q2 q3 r3 l1 l2 t2
    go_wp2
    go_ret
    exact ⟨rfl, hbE⟩
  · rw [q1, q2]
    have l1' : (16 : Int) ≤ (na : Int) := by omega
    have l2' : (14 : Int) < (na : Int) := by omega
    clear TC q1 q2 l1 l2 t1 t2 t3
    go_wp2
    go_ret
    exact ⟨rfl, hbE⟩

namespace foldTwice
set_option linter.unusedVariables false
set_option maxRecDepth 100000 in
theorem lifted (os : Os) (started : os.Started) (H : Type) (enc : TypeId × Value → H) :
    ReturnsInHanded {} Try.checked os 9 .any (Rows.foldTwiceSpec.pre6 enc Try.prog Try.f9 Rows.foldTwiceRow.domain false) (Rows.foldTwiceSpec.post enc Try.prog Try.f9 false true false false) := by
  refine returnsInHanded_of_change (C := Try.checked) Try.own started (by kernel_rfl) Try.func9
    (ChangeSpec.witness6 (enc := enc) (C := Try.checked) false ⟨#[], #[.slice none 0 0, .slice none 0 0], []⟩ 8 (by kernel_rfl) (by kernel_rfl) (by kernel_rfl) (by kernel_rfl)) ?_
  intro W base args ds gs before hval0 hW hcnd _
  have hval : ∀ (j : Nat) t v, Try.f9.params[j]? = some t → args[j]? = some v → Value.okWide Try.prog W .any base t v := hval0
  have hW' := hW
  obtain ⟨p, q, hA0, hV, rfl, hfz, hnd⟩ := hW
  have hA : DataW.TrodAll enc Try.prog W 0 (fun _ => true) true Try.f9.params.toList args.toList ds p := hA0
  rw [Try.params9] at hA hval
  obtain ⟨v0, vs0, d0, ds0, p0, q0, hargs, rfl, rfl, h0, r0⟩ := trodAll_cons hA
  obtain ⟨v1, vs1, d1, ds1, p1, q1, rfl, rfl, rfl, h1, r1⟩ := trodAll_cons r0
  obtain ⟨rfl, rfl, rfl⟩ := trodAll_nil r1
  obtain rfl : args = #[v0, v1] := by cases args; simp_all
  obtain ⟨rfl, rfl⟩ := trodVars_none hV
  obtain ⟨a0, len0, cap0, rfl⟩ := okWide_slice Try.underlying27 (hval 0 27 v0 rfl rfl)
  have k0 := h0
  have lt0 : ∀ x ∈ p0, x.block < W.heap.size := by obtain ⟨m, hm⟩ := k0; exact DataW.trod_lt m _ _ _ hm
  obtain ⟨s0, z0, w0, c0⟩ : ∃ hs ls, Slab W a0 len0 hs ls ∧ len0 ≤ cap0 := by
    obtain ⟨fuel, hf⟩ := h0
    exact open_slab Try.underlying27 Try.underlying22 Try.underlying5 (by kernel_rfl) (by kernel_rfl) hf
  obtain ⟨a1, len1, cap1, rfl⟩ := okWide_slice Try.underlying22 (hval 1 22 v1 rfl rfl)
  have k1 := h1
  have lt1 : ∀ x ∈ p1, x.block < W.heap.size := by obtain ⟨m, hm⟩ := k1; exact DataW.trod_lt m _ _ _ hm
  obtain ⟨z1, w1, c1⟩ : ∃ zs, Ints .u8 W a1 len1 zs ∧ len1 ≤ cap1 := by
    obtain ⟨fuel, hf⟩ := h1
    rcases open_ints Try.underlying22 Try.underlying5 (by kernel_rfl) hf with ⟨hcs, _⟩ | ⟨x, l, c, zs, hcs, _, hl, hm, hz, _, hcell, hwz⟩
    · simp [Value.cells] at hcs
      obtain ⟨rfl, rfl, rfl⟩ := hcs
      exact ⟨[], ⟨rfl, by omega, by simp, .inl rfl⟩, by omega⟩
    · simp [Value.cells] at hcs
      obtain ⟨rfl, rfl, rfl⟩ := hcs
      exact ⟨_, Ints.of_cells hl hm (by simpa using hz) hcell hwz, hl⟩
  clear hA0 hval0
  refine (foldTwice_walk W a0 len0 cap0 s0 z0 w0 c0 a1 len1 cap1 z1 w1 c1).mono fun e W' ⟨he, bel⟩ => ?_
  subst he
  exact ⟨_, rfl, _, _, _, [], _, [], hW', trodAll_mk1 (shut_bool Try.underlying4 _), (trodAll_cons_mk (Below.trod Try.laidOut (by kernel_rfl) (of_decide_eq_true (by kernel_rfl)) k0 bel lt0) (trodAll_cons_mk (Below.trod Try.laidOut (by kernel_rfl) (of_decide_eq_true (by kernel_rfl)) k1 bel lt1) trodAll_mk0)), rfl, bel.frame _, fun h => by cases h⟩

theorem holds : Rows.FoldTwiceSaid :=
  OpenClaim.holds_of_wide 9 Try.f9 rfl rfl rfl rfl rfl rfl rfl ⟨rfl, rfl, rfl, rfl, rfl⟩ rfl rfl rfl rfl rfl (by kernel_rfl) Try.func9 (by kernel_rfl)
    (of_decide_eq_true (by kernel_rfl)) (by unfold Func.isWrapper; first | (rw [if_pos (by decide +kernel)]; kernel_rfl) | (rw [if_neg (by decide +kernel)]; exact ⟨rfl, rfl⟩))
    (fun os started H enc _ => lifted os started H enc)
end foldTwice
end Go.Proofs.Ytdoafdgikmloiaa
