/- freeboardlaw03.FoldParts: for every input the law answers true, and what is handed in reads as it did. Conditions: none. -/
import Derived.Test.YtdoafdgikmloiaaFoldLaws
namespace Go.Proofs.Ytdoafdgikmloiaa
open Go.ChangeShapes Go.WideShapes Go.ChangeAt Go.RowKit PolyM PackM FoldM
set_option maxRecDepth 100000 in
theorem parts_out (w : World) (a b : Option Addr) (na ca nb cb : Nat) (hs ht : List Value) (ls lt : List (List Int)) (ha : Slab w a na hs ls) (hb : Slab w b nb ht lt) (h : Great ls ∨ ¬ Great ls ∧ Great lt) :
    Calls Try.prog 7 #[.slice a na ca, .slice b nb cb] w fun e w' => e = .returned (.bool true) ∧ Below w.heap.size w w' := by
  have cg := fun W (hW : Slab W a na hs ls) => great_calls a na ca hs ls W hW
  have cg' := fun W (hW : Slab W b nb ht lt) => great_calls b nb cb ht lt W hW
  rcases h with hG | ⟨hG, hG'⟩
  · rw [decide_eq_true hG] at cg
    clear hG
    go_enter Try.func7, Try.ntmps7
    go_wp2_with fail
    refine (alive_calls _).mono ?_
    rintro e w1 ⟨rfl, hb1⟩
    go_wp2_with fail
    refine (cg _ (ha.below hb1 (Nat.le_refl _))).mono ?_
    rintro e w2 ⟨rfl, rfl⟩
    clear cg cg'
    go_wp2
    go_ret
    exact ⟨rfl, hb1⟩
  · rw [decide_eq_false hG] at cg
    rw [decide_eq_true hG'] at cg'
    clear hG'
    clear hG
    go_enter Try.func7, Try.ntmps7
    go_wp2_with fail
    refine (alive_calls _).mono ?_
    rintro e w1 ⟨rfl, hb1⟩
    go_wp2_with fail
    refine (cg _ (ha.below hb1 (Nat.le_refl _))).mono ?_
    rintro e w2 ⟨rfl, rfl⟩
    go_wp2_with fail
    refine (cg' _ (hb.below hb1 (Nat.le_refl _))).mono ?_
    rintro e w2 ⟨rfl, rfl⟩
    clear cg cg'
    go_wp2
    go_ret
    exact ⟨rfl, hb1⟩
theorem folds_code (l m : List (List Int)) : code [foldL l, foldL m] = 0 := by
  refine code_zero.2 ⟨by simp, fun x hx => ?_⟩
  simp only [List.mem_cons, List.not_mem_nil, or_false] at hx
  rcases hx with rfl | rfl <;> exact .inr (foldL_len _)
theorem parts_code (a b : List (List Int)) : (code a ≠ 0 ∨ code b ≠ 0 ∨ code (a ++ b) ≠ 0) → code (a ++ b) ≠ 0 ∧ (16 < a.length + b.length ∨ a.length + b.length ≤ 16 ∧ code (a ++ b) = 3) := by
  intro h
  rcases code_or (a ++ b) with ⟨h1, h2, h3⟩ | ⟨h1, h2, h3⟩ | ⟨h1, h2⟩
  · rw [List.length_append] at h2
    rw [blks_append] at h3
    have e1 : code a = 0 := code_zero.2 ⟨by omega, h3.1⟩
    have e2 : code b = 0 := code_zero.2 ⟨by omega, h3.2⟩
    rcases h with q | q | q
    · exact absurd e1 q
    · exact absurd e2 q
    · exact absurd h1 q
  · rw [List.length_append] at h2
    exact ⟨by rw [h1]; decide, .inr ⟨h2, h1⟩⟩
  · rw [List.length_append] at h2
    exact ⟨by rw [h1]; decide, .inl h2⟩
set_option maxRecDepth 100000 in
set_option maxHeartbeats 4000000 in
theorem foldParts_walk (w : World) (a : Option Addr) (na ca : Nat) (hs : List Value) (ls : List (List Int)) (ha : Slab w a na hs ls) (hca : na ≤ ca) (b : Option Addr) (nb cb : Nat) (ht : List Value) (lt : List (List Int)) (hb : Slab w b nb ht lt) (hcb : nb ≤ cb) :
    Calls Try.prog 7 #[.slice a na ca, .slice b nb cb] w fun e w' => e = .returned (.bool true) ∧ Below w.heap.size w w' := by
  by_cases h : Great ls ∨ ¬ Great ls ∧ Great lt
  · exact parts_out w a b na ca nb cb hs ht ls lt ha hb h
  have hG : ¬ Great ls := fun g => h (.inl g)
  have hG' : ¬ Great lt := fun g => h (.inr ⟨hG, g⟩)
  clear h
  obtain ⟨hna, _⟩ := not_great ha.len hG
  obtain ⟨hnb, _⟩ := not_great hb.len hG'
  obtain ⟨j0, hj0, jz0, jz1, jz2⟩ := info_parts hdr_info
  have hma := ha.max
  have hmb := hb.max
  have cg := fun W (hW : Slab W a na hs ls) => great_calls a na ca hs ls W hW
  have cg' := fun W (hW : Slab W b nb ht lt) => great_calls b nb cb ht lt W hW
  rw [decide_eq_false hG] at cg
  rw [decide_eq_false hG'] at cg'
  clear hG hG'
  have nt := fun W => nil_text W 0
  have pc := Lib.hid (parts_code ls lt)
  have hla := Lib.hid ha.len
  have hlb := Lib.hid hb.len
  have A0 := Lib.hid ha
  have B0 := Lib.hid hb
  clear ha hb
  go_enter Try.func7, Try.ntmps7
  go_wp2_with fail
  refine (alive_calls _).mono ?_
  rintro e w1 ⟨rfl, hb1⟩
  go_wp2_with fail
  refine (cg _ (A0.out.below hb1 (Nat.le_refl _))).mono ?_
  rintro e w2 ⟨rfl, rfl⟩
  go_wp2_with fail
  refine (cg' _ (B0.out.below hb1 (Nat.le_refl _))).mono ?_
  rintro e w2 ⟨rfl, rfl⟩
  clear cg cg'
  by_cases hz : code (ls ++ lt) = 0
  · obtain ⟨hz1, hz2⟩ : code ls = 0 ∧ code lt = 0 := by
      obtain ⟨q1, q2⟩ := code_zero.1 hz
      rw [List.length_append] at q1
      rw [blks_append] at q2
      exact ⟨code_zero.2 ⟨by omega, q2.1⟩, code_zero.2 ⟨by omega, q2.2⟩⟩
    have hBa := foldL_bytes A0.out.each.bytes
    have hBb := foldL_bytes B0.out.each.bytes
    have hBab : Bytes (foldL (ls ++ lt)) := foldL_bytes fun x hx => (List.mem_append.1 hx).elim (A0.out.each.bytes x) (B0.out.each.bytes x)
    have hfc := folds_code ls lt
    have hfp := fold_parts ls lt
    go_wp2_with fail
    refine (fold_ok (A0.out.below hb1 (Nat.le_refl _)) hz1).mono ?_
    rintro e w2 ⟨g1, hg1, rfl, hgc1, hb2⟩
    have hb2' := hb1.trans (hb2.mono hb1.size)
    have i1 := Ints.ofCells hgc1 (foldL_len _) (by omega) hBa
    clear hgc1
    go_wp2_with fail
    refine (fold_ok (B0.out.below hb2' (Nat.le_refl _)) hz2).mono ?_
    rintro e w3 ⟨g2, hg2, rfl, hgc2, hb3⟩
    have hb3' := hb2'.trans (hb3.mono hb2'.size)
    have i2 := Ints.ofCells hgc2 (foldL_len _) (by omega) hBb
    have i1' := i1.below hb3 (Nat.le_refl _)
    have hA := A0.out.below hb3' (Nat.le_refl _)
    have hB := B0.out.below hb3' (Nat.le_refl _)
    have hrA := hA.row
    clear hgc2 i1 hz1 hz2
    go_wp2_with (first
      | (at_builtin; refine wpList_append_row _ rfl (.const (.slice none 0 0)) (.tmp 33) _ rfl w3.heap.size 22 j0 _ 1 24 Try.underlying27 hj0 jz0 jz1 jz2 rfl (by omega) (.slice none 0 0) 0 [] rfl (World.ownsRow_nil _ _ _ _) a na ca _ rfl hrA hA.each.one_cell (by simp only [maxLen]; omega) (by omega) (Nat.le_refl _) ?_; intro v4 w4 own2 hg2 _; obtain ⟨hb4, own3, hd3⟩ := copied hA own2 hg2; have hrB := (hB.below hb4 (Nat.le_refl _)).row)
      | (at_builtin; refine wpList_append_row _ rfl (.tmp 34) (.tmp 35) _ rfl w3.heap.size 22 j0 _ 1 24 Try.underlying27 hj0 jz0 jz1 jz2 rfl (by omega) v4 na hs rfl own3 b nb cb _ rfl hrB hB.each.one_cell (by simp only [maxLen]; omega) (by omega) hb4.size ?_; intro v5 w5 own5 hg5 _; obtain ⟨hb5, A5, C5, rfl, hS⟩ := appended own3 hb4 own5 hg5 hA.each hB.each (by omega)))
    refine (fold_ok hS hz).mono ?_
    rintro e w6 ⟨g6, hg6, rfl, hgc6, hb6⟩
    have hb7 := hb3'.trans (hb5.mono hb3'.size)
    have hb8 := hb7.trans (hb6.mono hb7.size)
    have hb36 := hb5.trans (hb6.mono hb5.size)
    have j1 := i1'.below hb36 (Nat.le_refl _)
    have j2 := i2.below hb36 (Nat.le_refl _)
    clear hA hB hrA hrB own2 hg2 own3 hd3 own5 hg5 hS hb2 hb3 hb4 hb5 hb6 hb7 hz i1' i2 hb36
    have hbx : Below w6.heap.size w6 (w6.alloc (.cells #[.slice (some ⟨g1, 0, none⟩) 128 128, .slice (some ⟨g2, 0, none⟩) 128 128] 22)) := (Below.refl _ _).alloc (Nat.le_refl _) _
    have hS7 := slab_new w6 [.slice (some ⟨g1, 0, none⟩) 128 128, .slice (some ⟨g2, 0, none⟩) 128 128] [foldL ls, foldL lt] (n := 2) ((Hdrs.one (j1.below hbx (Nat.le_refl _))).append (Hdrs.one (j2.below hbx (Nat.le_refl _)))) (by omega)
    have X := Lib.hid (And.intro hS7 (And.intro hbx hgc6))
    clear hS7 hbx hgc6 j1 j2
    go_wp2_with fail
    refine (fold_ok X.out.1 hfc).mono ?_
    rintro e w7 ⟨g7, hg7, rfl, hgc7, hb9⟩
    rw [hfp] at hgc7
    obtain ⟨-, hbx, hgc6⟩ := X.out
    have hb10 := hbx.trans (hb9.mono hbx.size)
    have t1 := block_text hgc6 (foldL_len _) hBab (Nat.le_refl _) hb10
    have t2 := block_text hgc7 (foldL_len _) hBab (Nat.le_refl _) (Below.refl _ _)
    have hb11 := hb8.trans (hb10.mono hb8.size)
    clear X hgc6 hgc7 hb9 hbx hfc hfp
    go_wp2
    go_ret
    exact ⟨rfl, hb11⟩
  · have hne := code_ne hz
    go_wp2_with fail
    refine (fold_any (A0.out.below hb1 (Nat.le_refl _))).mono ?_
    rintro e w2 ⟨v1, rfl, hb2⟩
    have hb2' := hb1.trans (hb2.mono hb1.size)
    go_wp2_with fail
    refine (fold_any (B0.out.below hb2' (Nat.le_refl _))).mono ?_
    rintro e w3 ⟨v2, rfl, hb3⟩
    have hb3' := hb2'.trans (hb3.mono hb2'.size)
    have hA := A0.out.below hb3' (Nat.le_refl _)
    have hB := B0.out.below hb3' (Nat.le_refl _)
    have hrA := hA.row
    go_wp2_with (first
      | (at_builtin; refine wpList_append_row _ rfl (.const (.slice none 0 0)) (.tmp 33) _ rfl w3.heap.size 22 j0 _ 1 24 Try.underlying27 hj0 jz0 jz1 jz2 rfl (by omega) (.slice none 0 0) 0 [] rfl (World.ownsRow_nil _ _ _ _) a na ca _ rfl hrA hA.each.one_cell (by simp only [maxLen]; omega) (by omega) (Nat.le_refl _) ?_; intro v4 w4 own2 hg2 _; obtain ⟨hb4, own3, hd3⟩ := copied hA own2 hg2; have hrB := (hB.below hb4 (Nat.le_refl _)).row)
      | (at_builtin; refine wpList_append_row _ rfl (.tmp 34) (.tmp 35) _ rfl w3.heap.size 22 j0 _ 1 24 Try.underlying27 hj0 jz0 jz1 jz2 rfl (by omega) v4 na hs rfl own3 b nb cb _ rfl hrB hB.each.one_cell (by simp only [maxLen]; omega) (by omega) hb4.size ?_; intro v5 w5 own5 hg5 _; obtain ⟨hb5, A5, C5, rfl, hS⟩ := appended own3 hb4 own5 hg5 hA.each hB.each (by omega)))
    refine (fold_no hS hz).mono ?_
    rintro e w6 ⟨rfl, hb6⟩
    have hb7 := hb3'.trans (hb5.mono hb3'.size)
    have hb8 := hb7.trans (hb6.mono hb7.size)
    have hcs := pc.out (.inr (.inr hz))
    rw [hla.out, hlb.out] at hcs
    obtain ⟨-, hcs⟩ := hcs
    clear hA hB hrA hrB own2 hg2 own3 hd3 own5 hg5 hS hb2 hb3 hb4 hb5 hb6 hb7 hz
    have hca3 : code (ls ++ lt) = code (ls ++ lt) := rfl
    generalize code (ls ++ lt) = cc at *
    have hpart : ((code ls != 0) = true) ∨ ((code ls != 0) = false ∧ (code lt != 0) = true) ∨ ((code ls != 0) = false ∧ (code lt != 0) = false) := by
      by_cases q1 : code ls = 0
      · by_cases q2 : code lt = 0
        · exact .inr (.inr ⟨by simp [q1], by simp [q2]⟩)
        · exact .inr (.inl ⟨by simp [q1], by simp [q2]⟩)
      · exact .inl (by simp [q1])
    have hlen2 : ((16 : Int) < (na : Int) + nb) ∨ (((na : Int) + nb ≤ 16) ∧ cc = 3) := by omega
    obtain ⟨hne1, hne2⟩ := hne
    rcases hpart with p1 | ⟨p1, p2⟩ | ⟨p1, p2⟩
    all_goals
      rcases hlen2 with l1 | ⟨l1, rfl⟩
    all_goals
      clear hcs
      go_wp2
      go_ret
      exact ⟨rfl, hb8⟩

namespace foldParts
set_option linter.unusedVariables false
set_option maxRecDepth 100000 in
theorem lifted (os : Os) (started : os.Started) (H : Type) (enc : TypeId × Value → H) :
    ReturnsInHanded {} Try.checked os 7 .any (Rows.foldPartsSpec.pre6 enc Try.prog Try.f7 Rows.foldPartsRow.domain false) (Rows.foldPartsSpec.post enc Try.prog Try.f7 false true false false) := by
  refine returnsInHanded_of_change (C := Try.checked) Try.own started (by kernel_rfl) Try.func7
    (ChangeSpec.witness6 (enc := enc) (C := Try.checked) false ⟨#[], #[.slice none 0 0, .slice none 0 0], []⟩ 8 (by kernel_rfl) (by kernel_rfl) (by kernel_rfl) (by kernel_rfl)) ?_
  intro W base args ds gs before hval0 hW hcnd _
  have hval : ∀ (j : Nat) t v, Try.f7.params[j]? = some t → args[j]? = some v → Value.okWide Try.prog W .any base t v := hval0
  have hW' := hW
  obtain ⟨p, q, hA0, hV, rfl, hfz, hnd⟩ := hW
  have hA : DataW.TrodAll enc Try.prog W 0 (fun _ => true) true Try.f7.params.toList args.toList ds p := hA0
  rw [Try.params7] at hA hval
  obtain ⟨v0, vs0, d0, ds0, p0, q0, hargs, rfl, rfl, h0, r0⟩ := trodAll_cons hA
  obtain ⟨v1, vs1, d1, ds1, p1, q1, rfl, rfl, rfl, h1, r1⟩ := trodAll_cons r0
  obtain ⟨rfl, rfl, rfl⟩ := trodAll_nil r1
  obtain rfl : args = #[v0, v1] := by cases args; simp_all
  obtain ⟨rfl, rfl⟩ := trodVars_none hV
  obtain ⟨a0, len0, cap0, rfl⟩ := okWide_slice Try.underlying27 (hval 0 27 v0 rfl rfl)
  have k0 := h0
  have lt0 : ∀ x ∈ p0, x.block < W.heap.size := by obtain ⟨m, hm⟩ := k0; exact DataW.trod_lt m _ _ _ hm
  obtain ⟨s0, z0, w0, c0⟩ : ∃ hs ls, Slab W a0 len0 hs ls ∧ len0 ≤ cap0 := by
    obtain ⟨fuel, hf⟩ := h0
    exact open_slab Try.underlying27 Try.underlying22 Try.underlying5 (by kernel_rfl) (by kernel_rfl) hf
  obtain ⟨a1, len1, cap1, rfl⟩ := okWide_slice Try.underlying27 (hval 1 27 v1 rfl rfl)
  have k1 := h1
  have lt1 : ∀ x ∈ p1, x.block < W.heap.size := by obtain ⟨m, hm⟩ := k1; exact DataW.trod_lt m _ _ _ hm
  obtain ⟨s1, z1, w1, c1⟩ : ∃ hs ls, Slab W a1 len1 hs ls ∧ len1 ≤ cap1 := by
    obtain ⟨fuel, hf⟩ := h1
    exact open_slab Try.underlying27 Try.underlying22 Try.underlying5 (by kernel_rfl) (by kernel_rfl) hf
  clear hA0 hval0
  refine (foldParts_walk W a0 len0 cap0 s0 z0 w0 c0 a1 len1 cap1 s1 z1 w1 c1).mono fun e W' ⟨he, bel⟩ => ?_
  subst he
  exact ⟨_, rfl, _, _, _, [], _, [], hW', trodAll_mk1 (shut_bool Try.underlying4 _), (trodAll_cons_mk (Below.trod Try.laidOut (by kernel_rfl) (of_decide_eq_true (by kernel_rfl)) k0 bel lt0) (trodAll_cons_mk (Below.trod Try.laidOut (by kernel_rfl) (of_decide_eq_true (by kernel_rfl)) k1 bel lt1) trodAll_mk0)), rfl, bel.frame _, fun h => by cases h⟩

theorem holds : Rows.FoldPartsSaid :=
  OpenClaim.holds_of_wide 7 Try.f7 rfl rfl rfl rfl rfl rfl rfl ⟨rfl, rfl, rfl, rfl, rfl⟩ rfl rfl rfl rfl rfl (by kernel_rfl) Try.func7 (by kernel_rfl)
    (of_decide_eq_true (by kernel_rfl)) (by unfold Func.isWrapper; first | (rw [if_pos (by decide +kernel)]; kernel_rfl) | (rw [if_neg (by decide +kernel)]; exact ⟨rfl, rfl⟩))
    (fun os started H enc _ => lifted os started H enc)
end foldParts
end Go.Proofs.Ytdoafdgikmloiaa
