/- freeboardlaw03.FoldBack: for every input the law answers true, and what is handed in reads as it did. Conditions: none. -/
import Derived.Test.YtdoafdgikmloiaaFoldLaws
namespace Go.Proofs.Ytdoafdgikmloiaa
open Go.ChangeShapes Go.WideShapes Go.ChangeAt Go.RowKit PolyM PackM FoldM
theorem back_out (w : World) (a : Option Addr) (na ca : Nat) (hs : List Value) (ls : List (List Int)) (p : Int) (ha : Slab w a na hs ls) (h : Great ls ∨ ¬ Great ls ∧ (p < 0 ∨ 0 ≤ p ∧ na ≤ p)) :
    Calls Try.prog 5 #[.slice a na ca, .int .i64 p] w fun e w' => e = .returned (.bool true) ∧ Below w.heap.size w w' := by
  have hm := ha.max
  have cg := fun W (hW : Slab W a na hs ls) => great_calls a na ca hs ls W hW
  rcases h with hG | ⟨hG, h1 | ⟨h1, h2⟩⟩
  case' inl => rw [decide_eq_true hG] at cg
  case' inr.inl => rw [decide_eq_false hG] at cg
  case' inr.inr => rw [decide_eq_false hG] at cg
  all_goals
    clear hG
    go_enter Try.func5, Try.ntmps5
    go_wp2_with fail
    refine (alive_calls _).mono ?_
    rintro e w1 ⟨rfl, hb1⟩
    go_wp2_with fail
    refine (cg _ (ha.below hb1 (Nat.le_refl _))).mono ?_
    rintro e w2 ⟨rfl, rfl⟩
    clear cg
    go_wp2
    go_ret
    exact ⟨rfl, hb1⟩
theorem back_none (w : World) (a : Option Addr) (na ca : Nat) (hs : List Value) (ls : List (List Int)) (p : Int) (ha : Slab w a na hs ls) (hG : ¬ Great ls) (hp0 : 0 ≤ p) (hpn : p < na) (hc : code ls ≠ 0) :
    Calls Try.prog 5 #[.slice a na ca, .int .i64 p] w fun e w' => e = .returned (.bool true) ∧ Below w.heap.size w w' := by
  have hm := ha.max
  have cg := fun W (hW : Slab W a na hs ls) => great_calls a na ca hs ls W hW
  rw [decide_eq_false hG] at cg
  obtain ⟨-, p1⟩ := code_ne hc
  clear hG
  go_enter Try.func5, Try.ntmps5
  go_wp2_with fail
  refine (alive_calls _).mono ?_
  rintro e w1 ⟨rfl, hb1⟩
  go_wp2_with fail
  refine (cg _ (ha.below hb1 (Nat.le_refl _))).mono ?_
  rintro e w2 ⟨rfl, rfl⟩
  clear cg
  go_wp2_with fail
  refine (fold_no (ha.below hb1 (Nat.le_refl _)) hc).mono ?_
  rintro e w2 ⟨rfl, hb2⟩
  have hb3 := hb1.trans (hb2.mono hb1.size)
  clear hc ha
  go_wp2
  go_ret
  exact ⟨rfl, hb3⟩
/-- The others, as far as they are gathered. -/
theorem others_skip {α : Type} {l : List α} {p : Nat} : (l.take (p + 1)).eraseIdx p = (l.take p).eraseIdx p := by
  apply List.ext_getElem?
  intro i
  simp only [List.getElem?_eraseIdx, List.getElem?_take]
  by_cases q : i < p
  · rw [if_pos q, if_pos q, if_pos (by omega), if_pos q]
  · rw [if_neg q, if_neg q, if_neg (by omega), if_neg (by omega)]
theorem others_more {α : Type} {l : List α} {p k : Nat} {x : α} (hk : k ≠ p) (h : l[k]? = some x) : (l.take (k + 1)).eraseIdx p = (l.take k).eraseIdx p ++ [x] := by
  obtain ⟨hl, _⟩ := List.getElem?_eq_some_iff.1 h
  rw [take_snocL h]
  rcases Nat.lt_or_ge p k with q | q
  · rw [List.eraseIdx_append_of_lt_length (by simp; omega)]
  · rw [List.eraseIdx_of_length_le (by simp; omega), List.eraseIdx_of_length_le (by simp; omega)]
/-- What holds when k of the blocks are gone through. -/
def BackRel (w2 : World) (hs : List Value) (p k : Nat) (v : Value) (wr : World) : Prop :=
  wr.ownsRow w2.heap.size 22 1 v ((hs.take k).eraseIdx p).length ((hs.take k).eraseIdx p) ∧ Below w2.heap.size w2 wr
theorem BackRel.start (w2 : World) (hs : List Value) (p : Nat) : BackRel w2 hs p 0 (.slice none 0 0) w2 := by
  refine ⟨?_, Below.refl _ _⟩
  simp only [List.take_zero, List.eraseIdx_nil, List.length_nil]
  exact World.ownsRow_nil _ _ _ _
theorem back_code {l : List (List Int)} (h : code l = 0) {p : Nat} (hp : p < l.length) : code (l.eraseIdx p ++ [foldL l]) = 0 := by
  obtain ⟨h1, h2⟩ := code_zero.1 h
  refine code_zero.2 ⟨by simp [List.length_eraseIdx, hp]; omega, ?_⟩
  rw [blks_append]
  refine ⟨fun x hx => h2 x (List.mem_of_mem_eraseIdx hx), fun x hx => ?_⟩
  simp at hx
  rw [hx]
  exact .inr (foldL_len _)
set_option maxRecDepth 100000 in
set_option maxHeartbeats 4000000 in
theorem back_some (w : World) (a : Option Addr) (na ca : Nat) (hs : List Value) (ls : List (List Int)) (P : Nat) (ha : Slab w a na hs ls) (hG : ¬ Great ls) (hP : P < na) (hc : code ls = 0) :
    Calls Try.prog 5 #[.slice a na ca, .int .i64 P] w fun e w' => e = .returned (.bool true) ∧ Below w.heap.size w w' := by
  have hm := ha.max
  have hn : na ≤ 16 := by have := (code_zero.1 hc).1; have := ha.len; omega
  obtain ⟨j0, hj0, jz0, jz1, jz2⟩ := info_parts hdr_info
  have cg := fun W (hW : Slab W a na hs ls) => great_calls a na ca hs ls W hW
  rw [decide_eq_false hG] at cg
  have hBf := foldL_bytes ha.each.bytes
  have hbc := back_code hc (p := P) (by rw [ha.len]; exact hP)
  have hpn : (P : Int) < (na : Int) := by omega
  have hp0 : (0 : Int) ≤ (P : Int) := by omega
  have A0 := Lib.hid ha
  have HL := Lib.hid ha.hlen
  clear hG ha
  go_enter Try.func5, Try.ntmps5
  go_wp2_with fail
  refine (alive_calls _).mono ?_
  rintro e w1 ⟨rfl, hb1⟩
  go_wp2_with fail
  refine (cg _ (A0.out.below hb1 (Nat.le_refl _))).mono ?_
  rintro e w2 ⟨rfl, rfl⟩
  clear cg
  go_wp2_with fail
  refine (fold_ok (A0.out.below hb1 (Nat.le_refl _)) hc).mono ?_
  rintro e w2 ⟨g, hg, rfl, hgc, hb2⟩
  have hb3 := hb1.trans (hb2.mono hb1.size)
  have hA := A0.out.below hb3 (Nat.le_refl _)
  have iF := Lib.hid (Ints.ofCells hgc (foldL_len _) (by omega) hBf)
  have T0 := BackRel.start w2 hs P
  clear hgc hb1 hb2
  go_wp2
  go_loopw [8, 9] (fun s i wr => ∃ k : Nat, k ≤ na ∧ i = .int .i64 k ∧ BackRel w2 hs P k s wr) (fun _ i _ => na - (intOf i).toNat)
  case atStart => exact ⟨0, by omega, rfl, T0⟩
  case round =>
    obtain ⟨k, hk, rfl, own, hbk⟩ := hrel
    clear T0
    by_cases hkn : k < na
    · by_cases hkP : k = P
      · subst hkP
        have T1 : BackRel w2 hs k (k + 1) u8 wr := by
          refine ⟨?_, hbk⟩
          rw [others_skip]
          exact own
        have hd : ((k : Int) != k) = false := by simp
        clear own hbk
        go_wp2
        go_roundw
        case rel => exact ⟨k + 1, by omega, by go_num, T1⟩
        case measure => simp [intOf]; omega
      · have hd : ((k : Int) != P) = true := by simp; omega
        obtain ⟨b, off, A, L, C, zs, rfl, hlt, hhs, hls, hc0, hi⟩ := hA.at hkn
        have hcell : wr.cell? ⟨b, off + k, none⟩ = some (.slice A L C) := by rw [hbk.cell (p := ⟨b, off + k, none⟩) hlt]; exact hc0
        have hlen : ((hs.take k).eraseIdx P).length ≤ 16 := by
          have := List.length_eraseIdx_le (hs.take k) P
          simp only [List.length_take] at this
          omega
        have hmore := Lib.hid (others_more hkP hhs)
        have own3 := own_below own ((Below.refl _ _).alloc (Nat.le_refl _) (.cells #[.slice A L C] 22))
        have hr3 := row_new wr [.slice A L C]
        have hbk3 := hbk.trans (((Below.refl wr.heap.size wr).alloc (Nat.le_refl _) (.cells #[.slice A L C] 22)).mono hbk.size)
        clear hc0 hhs hls hi own hkP
        generalize hm' : ((hs.take k).eraseIdx P) = ys at *
        go_wp2_with (at_builtin; refine wpList_append_row _ rfl (.tmp 49) (.tmp 54) _ rfl w2.heap.size 22 j0 _ 1 24 Try.underlying27 hj0 jz0 jz1 jz2 rfl (by omega) u8 ys.length ys rfl own3 (some ⟨wr.heap.size, 0, none⟩) 1 1 [.slice A L C] rfl hr3 (by simp [Value.oneCell']) (by simp only [maxLen]; omega) (by omega) hbk3.size ?_; intro v5 w5 own5 hg5 _)
        have T1 : BackRel w2 hs P (k + 1) v5 w5 := by
          refine ⟨?_, below_own hbk3 hg5 rfl (fun q hq => (own_lt own3 hq).2) hbk3.size⟩
          rw [hmore.out, List.length_append]
          exact own5
        clear own3 own5 hg5 hr3 hbk3 hbk hcell
        go_wp2
        go_roundw
        case rel => exact ⟨k + 1, by omega, by go_num, T1⟩
        case measure => simp [intOf]; omega
    · obtain rfl : k = na := by omega
      have hE : (hs.take k).eraseIdx P = hs.eraseIdx P := by rw [List.take_of_length_le (by rw [HL.out]; exact Nat.le_refl _)]
      rw [hE] at own
      have hlen : (hs.eraseIdx P).length ≤ 16 := by
        have := List.length_eraseIdx_le hs P
        have := HL.out
        omega
      obtain ⟨b, off, A, L, C, xs, rfl, hlt, hhs, hls, hc0, hi⟩ := hA.at hP
      have own3 := own_below own ((Below.refl _ _).alloc (Nat.le_refl _) (.cells #[.slice (some ⟨g, 0, none⟩) 128 128] 22))
      have hr3 := row_new wr [.slice (some ⟨g, 0, none⟩) 128 128]
      have hbk3 := hbk.trans (((Below.refl wr.heap.size wr).alloc (Nat.le_refl _) (.cells #[.slice (some ⟨g, 0, none⟩) 128 128] 22)).mono hbk.size)
      have hEr := hA.each.erase P
      have hFB := Lib.hid (fun j (hj : j < 128) => fold_back hls (bytes_of hi) hj)
      have hBz := Lib.hid (foldL_bytes (l := ls.eraseIdx P ++ [foldL ls]) fun x hx => (List.mem_append.1 hx).elim (fun q => hA.each.bytes x (List.mem_of_mem_eraseIdx q)) (fun q => by simp at q; rw [q]; exact hBf))
      have hI := Lib.hid hi
      have hC0 := Lib.hid hc0
      clear hE own hbk hhs hls hc0 hi
      generalize hs.eraseIdx P = ys at *
      go_wp2_with (at_builtin; refine wpList_append_row _ rfl (.tmp 57) (.tmp 59) _ rfl w2.heap.size 22 j0 _ 1 24 Try.underlying27 hj0 jz0 jz1 jz2 rfl (by omega) u8 ys.length ys rfl own3 (some ⟨wr.heap.size, 0, none⟩) 1 1 [.slice (some ⟨g, 0, none⟩) 128 128] rfl hr3 (by simp [Value.oneCell']) (by simp only [maxLen]; omega) (by omega) hbk3.size ?_; intro v5 w5 own5 hg5 _; obtain ⟨hb5, A5, C5, rfl, hS⟩ := appended own3 hbk3 own5 hg5 hEr (Hdrs.one iF.out) (by omega))
      refine (fold_ok hS hbc).mono ?_
      rintro e w6 ⟨g2, hg2, rfl, hgc2, hb6⟩
      have hb7 := hb5.trans (hb6.mono hb5.size)
      have i2 := Lib.hid (Ints.ofCells hgc2 (foldL_len _) (by omega) hBz.out)
      clear own3 hr3 hbk3 own5 hg5 hS hb5 hb6 hgc2 hEr hA iF hbc hc
      go_wp2
      go_loopw [12] (fun i wr => ∃ k : Nat, k ≤ 128 ∧ i = .int .i64 k ∧ Below w6.heap.size w6 wr) (fun i _ => 128 - (intOf i).toNat)
      case atStart => exact ⟨0, by omega, rfl, Below.refl _ _⟩
      case round =>
        obtain ⟨j, hj, rfl, hbj⟩ := hrel
        have hbR := hb7.trans (hbj.mono hb7.size)
        by_cases hj1 : j < 128
        · have hat : ∀ m, Calls Try.prog 17 #[.slice A L C, .int .i64 j] (wr.drewN m) fun e w' => e = .returned (.int .u8 (xs.getD j 0)) ∧ w' = wr.drewN m :=
            fun m => (at_calls A L C xs j _ (hI.out.below (below_drewN hbR m) (Nat.le_refl _)) hj1).mono fun _ _ q => ⟨q.1, q.2.symm⟩
          have hrow : wr.cell? ⟨b, off + P, none⟩ = some (.slice A L C) := by rw [hbR.cell (p := ⟨b, off + P, none⟩) hlt]; exact hC0.out
          have hcell : wr.cell? ⟨g2, j, none⟩ = some (.int .u8 (xs.getD j 0)) := by
            rcases (i2.out.below hbj (Nat.le_refl _)).row with q | ⟨b', off', e, _, hc⟩
            · omega
            · injection e with e; injection e with e1 e2; subst e1; subst e2
              have := hc j hj1
              rwa [Nat.zero_add, hFB.out j hj1] at this
          generalize xs.getD j 0 = z at *
          have hj0 : (0 : Int) ≤ (j : Int) := by omega
          have hj2 : (j : Int) < 128 := by omega
          clear hbR
          go_wp2
          go_quiet ((go_at_call 17; exact Calls.quiet_of_same (hat _)))
          go_wp2
          go_roundw
          case rel => exact ⟨j + 1, by omega, by go_num, below_drewN hbj _⟩
          case measure => simp [intOf]; omega
        · obtain rfl : j = 128 := by omega
          go_wp2
          go_ret
          exact ⟨rfl, hb3.trans (hbR.mono hb3.size)⟩
theorem foldBack_walk (w : World) (a : Option Addr) (na ca : Nat) (hs : List Value) (ls : List (List Int)) (ha : Slab w a na hs ls) (hca : na ≤ ca) (p : Int) (wp : (Lit.int .i64 p).wf = true) :
    Calls Try.prog 5 #[.slice a na ca, .int .i64 p] w fun e w' => e = .returned (.bool true) ∧ Below w.heap.size w w' := by
  by_cases h : Great ls ∨ ¬ Great ls ∧ (p < 0 ∨ 0 ≤ p ∧ na ≤ p)
  · exact back_out w a na ca hs ls p ha h
  obtain ⟨hG, hp0, hpn⟩ : ¬ Great ls ∧ 0 ≤ p ∧ p < na := by
    refine ⟨fun g => h (.inl g), ?_⟩
    have h2 : ¬ (p < 0 ∨ 0 ≤ p ∧ na ≤ p) := fun g => h (.inr ⟨fun g => h (.inl g), g⟩)
    omega
  by_cases hc : code ls = 0
  · obtain ⟨P, rfl⟩ := Int.eq_ofNat_of_zero_le hp0
    exact back_some w a na ca hs ls P ha hG (by omega) hc
  · exact back_none w a na ca hs ls p ha hG hp0 hpn hc

namespace foldBack
set_option linter.unusedVariables false
set_option maxRecDepth 100000 in
theorem lifted (os : Os) (started : os.Started) (H : Type) (enc : TypeId × Value → H) :
    ReturnsInHanded {} Try.checked os 5 .any (Rows.foldBackSpec.pre6 enc Try.prog Try.f5 Rows.foldBackRow.domain false) (Rows.foldBackSpec.post enc Try.prog Try.f5 false true false false) := by
  refine returnsInHanded_of_change (C := Try.checked) Try.own started (by kernel_rfl) Try.func5
    (ChangeSpec.witness6 (enc := enc) (C := Try.checked) false ⟨#[], #[.slice none 0 0, .int .i64 0], []⟩ 8 (by kernel_rfl) (by kernel_rfl) (by kernel_rfl) (by kernel_rfl)) ?_
  intro W base args ds gs before hval0 hW hcnd _
  have hval : ∀ (j : Nat) t v, Try.f5.params[j]? = some t → args[j]? = some v → Value.okWide Try.prog W .any base t v := hval0
  have hW' := hW
  obtain ⟨p, q, hA0, hV, rfl, hfz, hnd⟩ := hW
  have hA : DataW.TrodAll enc Try.prog W 0 (fun _ => true) true Try.f5.params.toList args.toList ds p := hA0
  rw [Try.params5] at hA hval
  obtain ⟨v0, vs0, d0, ds0, p0, q0, hargs, rfl, rfl, h0, r0⟩ := trodAll_cons hA
  obtain ⟨v1, vs1, d1, ds1, p1, q1, rfl, rfl, rfl, h1, r1⟩ := trodAll_cons r0
  obtain ⟨rfl, rfl, rfl⟩ := trodAll_nil r1
  obtain rfl : args = #[v0, v1] := by cases args; simp_all
  obtain ⟨rfl, rfl⟩ := trodVars_none hV
  obtain ⟨a0, len0, cap0, rfl⟩ := okWide_slice Try.underlying27 (hval 0 27 v0 rfl rfl)
  have k0 := h0
  have lt0 : ∀ x ∈ p0, x.block < W.heap.size := by obtain ⟨m, hm⟩ := k0; exact DataW.trod_lt m _ _ _ hm
  obtain ⟨s0, z0, w0, c0⟩ : ∃ hs ls, Slab W a0 len0 hs ls ∧ len0 ≤ cap0 := by
    obtain ⟨fuel, hf⟩ := h0
    exact open_slab Try.underlying27 Try.underlying22 Try.underlying5 (by kernel_rfl) (by kernel_rfl) hf
  obtain ⟨a1, rfl, rfl, rfl, w1⟩ := open_int Try.underlying3 (hval 1 3 v1 rfl rfl) h1
  clear hA0 hval0
  refine (foldBack_walk W a0 len0 cap0 s0 z0 w0 c0 a1 w1).mono fun e W' ⟨he, bel⟩ => ?_
  subst he
  exact ⟨_, rfl, _, _, _, [], _, [], hW', trodAll_mk1 (shut_bool Try.underlying4 _), (trodAll_cons_mk (Below.trod Try.laidOut (by kernel_rfl) (of_decide_eq_true (by kernel_rfl)) k0 bel lt0) (trodAll_cons_mk (shut_int Try.underlying3 w1) trodAll_mk0)), rfl, bel.frame _, fun h => by cases h⟩

theorem holds : Rows.FoldBackSaid :=
  OpenClaim.holds_of_wide 5 Try.f5 rfl rfl rfl rfl rfl rfl rfl ⟨rfl, rfl, rfl, rfl, rfl⟩ rfl rfl rfl rfl rfl (by kernel_rfl) Try.func5 (by kernel_rfl)
    (of_decide_eq_true (by kernel_rfl)) (by unfold Func.isWrapper; first | (rw [if_pos (by decide +kernel)]; kernel_rfl) | (rw [if_neg (by decide +kernel)]; exact ⟨rfl, rfl⟩))
    (fun os started H enc _ => lifted os started H enc)
end foldBack
end Go.Proofs.Ytdoafdgikmloiaa
