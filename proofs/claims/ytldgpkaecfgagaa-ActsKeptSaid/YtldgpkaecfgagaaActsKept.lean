/- freeboardlaw05.ActsKept: for every input the law answers true, and what is handed in reads as it did. Conditions: none. -/
import Derived.Test.YtldgpkaecfgagaaActOpen
import Derived.Test.YtldgpkaecfgagaaActJ
import Derived.Test.YtldgpkaecfgagaaActK
namespace Go.Proofs.Ytldgpkaecfgagaa
open Go.ChangeShapes Go.WideShapes Go.ChangeAt Go.RowKit PolyM PackM FoldM DevM
theorem crashE_cases (ds : List Dev) (bs : List Bool) : (crashE ds bs = 0 ∧ MayL ds) ∨ (crashE ds bs ≠ 0 ∧ crashR ds bs = []) := by
  by_cases h : crashE ds bs = 0
  · left
    refine ⟨h, ?_⟩
    unfold crashE at h
    by_cases hM : MayL ds
    · exact hM
    · rw [if_pos hM] at h; omega
  · exact .inr ⟨h, if_neg h⟩
theorem DevsN.zero5 {K : Nat} {w : World} {v : Value} (h : DevsN K w v []) : ∃ a C hs, v = .slice a 0 C ∧ DSlab w a 0 hs [] := by
  obtain ⟨a, n, C, hs, rfl, hS⟩ := h.slab
  have := hS.len
  simp only [List.length_nil] at this
  subst this
  exact ⟨a, C, hs, rfl, hS⟩
theorem fullL_zero : fullL 0 = List.replicate 128 0 := rfl

set_option maxHeartbeats 16000000 in
set_option maxRecDepth 100000 in
theorem actsKept_walk (w : World) (a : Option Addr) (n c : Nat) (hs : List Value) (ds : List Dev) (hv : DSlab w a n hs ds) (_hc : n ≤ c) (aK : Option Addr) (nK cK : Nat) (bs : List Bool) (hk : Row w 1 aK nK (bs.map Value.bool)) (hcK : nK ≤ cK) (hmK : nK ≤ 9223372036854775807) (at_ : Int) (_wa : (Lit.int .i64 at_).wf = true) (pl : Int) (_wp : (Lit.int .i64 pl).wf = true) :
    Calls Try.prog 13 #[.slice a n c, .slice aK nK cK, .int .i64 at_, .int .i64 pl] w fun e w' => e = .returned (.bool true) ∧ Below w.heap.size w w' := by
  have hl0 := Lib.hid hv.len
  go_enter Try.func13, Try.ntmps13
  have hB := Below.refl w.heap.size w
  go_wp2_with fail
  (with_reducible refine (alive5_calls _).mono ?_)
  rintro e w1 ⟨rfl, hb⟩
  replace hv := hv.below hb (Nat.le_refl _)
  replace hk := hk.below hb (Nat.le_refl _)
  replace hB := hB.trans (hb.mono hB.size)
  clear hb
  go_wp2_with fail
  (with_reducible refine (great5_calls _ _ _ _ _ _ hv).mono ?_)
  rintro e w2 ⟨⟨r, rfl, hR⟩, hb⟩
  replace hv := hv.below hb (Nat.le_refl _)
  replace hk := hk.below hb (Nat.le_refl _)
  replace hB := hB.trans (hb.mono hB.size)
  clear hb
  rcases r with _ | _
  case true =>
    go_wp2
    go_ret
    exact ⟨rfl, hB⟩
  clear hR
  by_cases h3 : 30000 < nK
  · have d1 : decide ((30000 : Int) < (nK : Int)) = true := decide_eq_true (by omega)
    go_wp2
    go_ret
    exact ⟨rfl, hB⟩
  have d1 : decide ((30000 : Int) < (nK : Int)) = false := decide_eq_false (by omega)
  have cC := fun W hs (h : DSlab W a n hs ds) (hk : Row W 1 aK nK (bs.map Value.bool)) => crash_calls a n c hs ds aK nK cK bs W h hk hcK hmK
  rcases crashE_cases ds bs with ⟨hE, hM⟩ | ⟨hE, hR0⟩
  · rw [hE] at cC
    have hR : crashR ds bs = crashL ds (bs ++ List.replicate (manyL ds - bs.length) false) := if_pos hE
    rw [hR] at cC
    generalize bs ++ List.replicate (manyL ds - bs.length) false = bs' at *
    have hMa := crash_mayL hM bs'
    have S1 := Lib.hid (SameL.refl (ds := crashL ds bs') fun d hd => may_smallD (hMa.2.2 d hd))
    have hla : (crashL ds bs').length = n := by rw [crashL_len]; exact hl0.out
    have cW := fun W a2 n2 c2 hs2 (h : DSlab W a2 n2 hs2 (crashL ds bs')) => actwaits_calls a2 n2 c2 hs2 _ W h
    rw [if_pos hMa, many_crash, show chkL (crashL ds bs') = 0 from if_pos hMa] at cW
    have cD := fun W a2 n2 c2 hs2 (h : DSlab W a2 n2 hs2 (crashL ds bs')) => crash_calls a2 n2 c2 hs2 _ none 0 0 [] W h (nil_row W) (by omega) (by omega)
    rw [crashE_nil hMa, crashR_nil hMa, crash_again] at cD
    have HCR := Lib.hid (crash_at ds bs')
    have HM := Lib.hid hM
    generalize hal : crashL ds bs' = al at *
    clear hE hR hMa hM hal
    go_wp2_with fail
    (with_reducible refine (cC _ _ hv hk).mono ?_)
    rintro e w3 ⟨v1, rfl, hD1, hb⟩
    obtain ⟨a1, n1, C1, hs1, rfl, hS1⟩ := hD1.slab
    obtain rfl : n = n1 := by rw [← hS1.len, hla]
    clear hD1 cC
    replace hv := hv.below hb (Nat.le_refl _)
    replace hB := hB.trans (hb.mono hB.size)
    clear hb
    go_wp2_with fail
    (with_reducible refine (cW _ _ _ _ _ hS1).mono ?_)
    rintro e w4 ⟨rfl, hb⟩
    replace hv := hv.below hb (Nat.le_refl _)
    replace hS1 := hS1.below hb (Nat.le_refl _)
    replace hB := hB.trans (hb.mono hB.size)
    clear hb
    go_wp2_with fail
    (with_reducible refine (cD _ _ _ _ _ hS1).mono ?_)
    rintro e w5 ⟨v2, rfl, hD2, hb⟩
    obtain ⟨a2, n2, C2, hs2, rfl, hS2⟩ := hD2.slab
    clear hD2 cW cD
    replace hv := hv.below hb (Nat.le_refl _)
    replace hS1 := hS1.below hb (Nat.le_refl _)
    replace hB := hB.trans (hb.mono hB.size)
    clear hb
    go_wp2_with fail
    (with_reducible refine (samedisks_calls _ _ _ _ _ _ _ _ _ _ _ hS1 hS2 S1.out).mono ?_)
    rintro e w6 ⟨rfl, hb⟩
    clear S1 hS2
    replace hv := hv.below hb (Nat.le_refl _)
    replace hS1 := hS1.below hb (Nat.le_refl _)
    replace hB := hB.trans (hb.mono hB.size)
    clear hb
    by_cases q0 : at_ < 0
    · have d2 : decide (at_ < 0) = true := decide_eq_true q0
      go_wp2
      go_ret
      exact ⟨rfl, hB⟩
    have d2 : decide (at_ < 0) = false := decide_eq_false q0
    by_cases q1 : (n : Int) ≤ at_
    · have d3 : decide ((n : Int) ≤ at_) = true := decide_eq_true q1
      go_wp2
      go_ret
      exact ⟨rfl, hB⟩
    have d3 : decide ((n : Int) ≤ at_) = false := decide_eq_false q1
    obtain ⟨j, rfl⟩ : ∃ q : Nat, at_ = q := ⟨at_.toNat, by omega⟩
    have hjn : j < n := by omega
    have hjn1 : (j : Int) < (n : Int) := by omega
    have d3n : decide (n ≤ j) = false := decide_eq_false (by omega)
    obtain ⟨b, off, A, l, C, B, m, D, d, rfl, hd, hlt, g0, g1, g2, hvd⟩ := hv.at hjn
    by_cases q2 : d.dead = true
    · rw [q2] at g2
      go_wp2
      go_ret
      exact ⟨rfl, hB⟩
    have hdd : d.dead = false := by cases q : d.dead; rfl; exact absurd q q2
    by_cases q3 : pl < 0
    · have d4 : decide (pl < 0) = true := decide_eq_true q3
      rw [hdd] at g2
      go_wp2
      go_ret
      exact ⟨rfl, hB⟩
    have d4 : decide (pl < 0) = false := decide_eq_false q3
    by_cases q4 : (l : Int) ≤ pl
    · have d5 : decide ((l : Int) ≤ pl) = true := decide_eq_true q4
      rw [hdd] at g2
      go_wp2
      go_ret
      exact ⟨rfl, hB⟩
    have d5 : decide ((l : Int) ≤ pl) = false := decide_eq_false q4
    obtain ⟨p, rfl⟩ : ∃ q : Nat, pl = q := ⟨pl.toNat, by omega⟩
    have d5n : decide (l ≤ p) = false := decide_eq_false (by omega)
    have hMd := HM.out.2.2 d (List.mem_of_getElem? hd)
    have hbl := (dev_wait hvd).2
    have hwl := (dev_wait hvd).1
    have hp : p < d.blocks.length := by omega
    have hu0 := useE_of hMd (by omega : (0 : Int) ≤ p) (by omega) blk_nil hdd
    obtain ⟨bs3, hkd⟩ : ∃ bs3, al[j]? = some (keptD d bs3) := ⟨_, HCR.out j d hd⟩
    have hu1 := (kept_use hMd bs3 (p : Int)).trans hu0
    have hli := Lib.hid (kept_lies hMd bs3 hp)
    obtain ⟨b1, off1, A1, l1, C3, B1, m1, D1, d1', rfl, hd1, hlt1, k0, k1, k2, hv1⟩ := hS1.at hjn
    rw [hkd] at hd1
    obtain rfl := Option.some.inj hd1
    have cX := fun W (hW : Below w6.heap.size w6 W) => lasting_calls _ (keptD d bs3) (p : Int) W (hv1.below hW (Nat.le_refl _))
    have cY := fun W (hW : Below w6.heap.size w6 W) => lasting_calls _ d (p : Int) W (hvd.below hW (Nat.le_refl _))
    rw [hu1, resB_zero] at cX
    rw [hu0, resB_zero] at cY
    have hkdd : (keptD d bs3).dead = false := hdd
    rw [hkdd] at cX k2
    rw [hdd] at cY g2
    obtain ⟨htB, hWS⟩ : ∃ htB, WSlab w6 B m htB d.wait := by
      obtain ⟨_, _, _, _, _, _, _, ht, e, _, hWs⟩ := hvd
      simp only [Value.agg.injEq, Array.mk.injEq, List.cons.injEq, Value.slice.injEq, Value.bool.injEq, and_true] at e
      obtain ⟨_, rfl, rfl, rfl⟩ := e
      exact ⟨ht, hWs⟩
    have hmm := hWS.max
    have HWS := Lib.hid hWS
    have HLW := Lib.hid hwl
    clear hWS hd hkd hvd hv1 hMd hu0 hu1 hv hS1 HCR HM hp hbl hwl hdd hkdd q2 q3 q4 q0 q1
    generalize lies (keptD d bs3) (p : Int) = X at *
    generalize lies d (p : Int) = Y at *
    go_wp2_with fail
    (with_reducible refine (cX _ (Below.refl _ _)).mono ?_)
    rintro e w7 ⟨Ax, Lx, Cx, rfl, hFx, hb7⟩
    have g0' := (hb7.cell (p := ⟨b, off + j * 3, none⟩) hlt).trans g0
    have g1' := (hb7.cell (p := ⟨b, off + j * 3 + 1, none⟩) hlt).trans g1
    have g2' := (hb7.cell (p := ⟨b, off + j * 3 + 2, none⟩) hlt).trans g2
    clear cX k0 k1 k2
    go_wp2_with fail
    (with_reducible refine (cY _ hb7).mono ?_)
    rintro e w8 ⟨Ay, Ly, Cy, rfl, hFy, hb8⟩
    have h68 := hb7.trans (hb8.mono hb7.size)
    have HFx := Lib.hid (hFx.below hb8)
    have TX := fun W (hW : Below w8.heap.size w8 W) => HFx.out.text hW
    have tx := TX w8 (Below.refl _ _)
    have ty := hFy.text (Below.refl _ _)
    have hB8 := hB.trans (h68.mono hB.size)
    clear cY hFx hFy hb7 hb8 g0' g1' g2' g0 g2
    go_wp2
    clear tx ty
    go_loopw [20, 21] (fun f i wr => ∃ (k : Nat) (fb : Bool), k ≤ m ∧ i = .int .i64 k ∧ f = .bool fb ∧ Hid (fb = true ∨ ∃ (q : Nat) (x : Int × List Int), k ≤ q ∧ d.wait[q]? = some x ∧ x.1 = (p : Int) ∧ fullD x.2 = X) ∧ Below w8.heap.size w8 wr) (fun _ i _ => m - (intOf i).toNat)
    case atStart =>
      refine ⟨0, _, by omega, rfl, rfl, Lib.hid ?_, Below.refl _ _⟩
      rcases hli.out with e | ⟨x, hx, e1, e2⟩
      · left; rw [e]; simp
      · right
        obtain ⟨q, hq⟩ := List.getElem?_of_mem hx
        exact ⟨q, x, by omega, hq, e1, e2⟩
    case round =>
      obtain ⟨k, fb, hk, rfl, rfl, hf, hBr⟩ := hrel
      have H6r := h68.trans (hBr.mono h68.size)
      have e1 := (H6r.cell (p := ⟨b, off + j * 3 + 1, none⟩) hlt).trans g1
      by_cases hkm : k < m
      · have hkm1 : (k : Int) < (m : Int) := by omega
        obtain ⟨b5, off5, A5, L5, C5, x5, rfl, hlt5, hls5, hc0, hc5, hwf, hz5, _⟩ := HWS.out.at hkm
        have c0 := (H6r.cell (p := ⟨b5, off5 + k * 2, none⟩) hlt5).trans hc0
        have c5 := (H6r.cell (p := ⟨b5, off5 + k * 2 + 1, none⟩) hlt5).trans hc5
        obtain ⟨pw, dat⟩ := x5
        simp only at c0 hz5
        have hnx : Hid (∀ r : Bool, (pw = (p : Int) → fullD dat = X → r = true) → (fb = true → r = true) → (r = true ∨ ∃ (q : Nat) (x : Int × List Int), k + 1 ≤ q ∧ d.wait[q]? = some x ∧ x.1 = (p : Int) ∧ fullD x.2 = X)) := by
          refine Lib.hid fun r hr1 hr2 => ?_
          rcases hf.out with e | ⟨q, x, hq, hx, t1, t2⟩
          · exact .inl (hr2 e)
          · by_cases hqk : q = k
            · subst hqk
              rw [hls5] at hx
              obtain rfl := Option.some.inj hx
              exact .inl (hr1 t1 t2)
            · exact .inr ⟨q, x, by omega, hx, t1, t2⟩
        have ha : Below wr.heap.size wr (wr.alloc (.cells #[.int .i64 pw, .slice A5 L5 C5] 88)) := (Below.refl _ _).alloc (Nat.le_refl _) _
        have hBa := hBr.alloc hBr.size (.cells #[.int .i64 pw, .slice A5 L5 C5] 88)
        have hL5 := hz5.max
        have hbx := heap_alloc_new wr (.cells #[.int .i64 pw, .slice A5 L5 C5] 88)
        have hnew : wr.heap.size < (wr.alloc (.cells #[.int .i64 pw, .slice A5 L5 C5] 88)).heap.size := by simp
        by_cases hL0 : L5 = 0
        · have d6 : ((L5 : Int) == 0) = true := by simp [hL0]
          have hfz : fullD dat = fullL 0 := by
            unfold fullD
            rw [if_pos (by have := hz5.len; omega)]; rfl
          rw [hfz] at hnx
          have cf := full5_calls 0 (wr.alloc (.cells #[.int .i64 pw, .slice A5 L5 C5] 88)) (by omega) (by omega)
          clear hls5 hc0 hc5 hwf hz5 hf H6r hfz hL0
          go_wp2_with fail
          (with_reducible refine cf.mono ?_)
          rintro e w9 ⟨g9, hg9, rfl, hc9, hb9⟩
          have hB9 := hBa.trans (hb9.mono hBa.size)
          have t9 := block_text hc9 (fullL_len 0) (fullL_bytes ⟨by omega, by omega⟩) (Nat.le_refl _) (Below.refl _ _)
          have tx := TX w9 hB9
          have b9 : w9.cell? ⟨wr.heap.size, 0, none⟩ = some (.int .i64 pw) := (hb9.cell (p := ⟨wr.heap.size, 0, none⟩) hnew).trans (cell_of_row _ _ _ _ _ _ hbx)
          clear cf hc9 hb9 hbx hBa ha hBr e1 c0 c5
          rcases fb with _ | _
          · by_cases hat : pw = (p : Int)
            · subst hat
              have d7 : ((p : Int) == (p : Int)) = true := by simp
              go_wp2
              go_roundw
              case rel => exact ⟨k + 1, _, by omega, by go_num, rfl, Lib.hid (hnx.out _ (fun _ e => by rw [e]; simp) (fun e => by cases e)), hB9⟩
              case measure => simp [intOf]; omega
            · have d7 : (pw == (p : Int)) = false := by simp [hat]
              go_wp2
              go_roundw
              case rel => exact ⟨k + 1, _, by omega, by go_num, rfl, Lib.hid (hnx.out _ (fun e _ => absurd e hat) (fun e => by cases e)), hB9⟩
              case measure => simp [intOf]; omega
          · go_wp2
            go_roundw
            case rel => exact ⟨k + 1, true, by omega, by go_num, rfl, Lib.hid (.inl rfl), hB9⟩
            case measure => simp [intOf]; omega
        · have d6 : ((L5 : Int) == 0) = false := by simp [hL0]
          have hfz : fullD dat = dat := if_neg (by have := hz5.len; omega)
          rw [hfz] at hnx
          have t9 := ((hz5.below H6r (Nat.le_refl _)).below ha (Nat.le_refl _)).text (c := C5) (P := Try.prog) Try.underlying29 Try.underlying5 Try.underlying9
          have tx := TX _ hBa
          have hB9 := hBa
          clear hls5 hc0 hc5 hwf hz5 hf H6r hfz hL0 hbx ha
          rcases fb with _ | _
          · by_cases hat : pw = (p : Int)
            · subst hat
              have d7 : ((p : Int) == (p : Int)) = true := by simp
              go_wp2
              go_roundw
              case rel => exact ⟨k + 1, _, by omega, by go_num, rfl, Lib.hid (hnx.out _ (fun _ e => by rw [e]; simp) (fun e => by cases e)), hB9⟩
              case measure => simp [intOf]; omega
            · have d7 : (pw == (p : Int)) = false := by simp [hat]
              go_wp2
              go_roundw
              case rel => exact ⟨k + 1, _, by omega, by go_num, rfl, Lib.hid (hnx.out _ (fun e _ => absurd e hat) (fun e => by cases e)), hB9⟩
              case measure => simp [intOf]; omega
          · go_wp2
            go_roundw
            case rel => exact ⟨k + 1, true, by omega, by go_num, rfl, Lib.hid (.inl rfl), hB9⟩
            case measure => simp [intOf]; omega
      · obtain rfl : m = k := by omega
        have hft : fb = true := by
          rcases hf.out with e | ⟨q, x, hq, hx, _, _⟩
          · exact e
          · have := (List.getElem?_eq_some_iff.1 hx).1
            have := HLW.out
            omega
        subst hft
        have hBf := hB8.trans (hBr.mono hB8.size)
        clear hf H6r
        go_wp2
        go_ret
        exact ⟨rfl, hBf⟩
  · rw [hR0] at cC
    have hne := err_ne hE
    have hnM : ¬ MayL ([] : List Dev) := fun q => by have := q.1; simp at this
    have cW := fun W a2 n2 c2 hs2 (h : DSlab W a2 n2 hs2 []) => actwaits_calls a2 n2 c2 hs2 _ W h
    rw [if_neg hnM, show chkL ([] : List Dev) = 8 from if_neg hnM] at cW
    have cD := fun W a2 n2 c2 hs2 (h : DSlab W a2 n2 hs2 []) => crash_calls a2 n2 c2 hs2 _ none 0 0 [] W h (nil_row W) (by omega) (by omega)
    generalize crashE ds bs = er at *
    generalize crashE [] [] = er2 at *
    generalize crashR [] [] = li2 at *
    clear hE hR0 hnM
    go_wp2_with fail
    (with_reducible refine (cC _ _ hv hk).mono ?_)
    rintro e w21 ⟨v1, rfl, hD1, hb⟩
    obtain ⟨a1, C1, hs1, rfl, hS1⟩ := hD1.zero5
    clear hD1 cC hv hk
    replace hB := hB.trans (hb.mono hB.size)
    clear hb
    go_wp2_with fail
    (with_reducible refine (cW _ _ _ _ _ hS1).mono ?_)
    rintro e w22 ⟨rfl, hb⟩
    replace hS1 := hS1.below hb (Nat.le_refl _)
    replace hB := hB.trans (hb.mono hB.size)
    clear hb
    go_wp2_with fail
    (with_reducible refine (cD _ _ _ _ _ hS1).mono ?_)
    rintro e w23 ⟨v2, rfl, hD2, hb⟩
    clear hD2 hS1
    replace hB := hB.trans (hb.mono hB.size)
    clear hb
    go_wp2
    go_ret
    exact ⟨rfl, hB⟩

namespace actsKept
set_option linter.unusedVariables false
set_option maxRecDepth 100000 in
theorem lifted (os : Os) (started : os.Started) (H : Type) (enc : TypeId × Value → H) :
    ReturnsInHanded {} Try.checked os 13 .any (Rows.actsKeptSpec.pre6 enc Try.prog Try.f13 Rows.actsKeptRow.domain false) (Rows.actsKeptSpec.post enc Try.prog Try.f13 false true false false) := by
  refine returnsInHanded_of_change (C := Try.checked) Try.own started (by kernel_rfl) Try.func13
    (ChangeSpec.witness6 (enc := enc) (C := Try.checked) false ⟨#[], #[.slice none 0 0, .slice none 0 0, .int .i64 0, .int .i64 0], []⟩ 8 (by kernel_rfl) (by kernel_rfl) (by kernel_rfl) (by kernel_rfl)) ?_
  intro W base args ds gs before hval0 hW hcnd _
  have hval : ∀ (j : Nat) t v, Try.f13.params[j]? = some t → args[j]? = some v → Value.okWide Try.prog W .any base t v := hval0
  have hW' := hW
  obtain ⟨p, q, hA0, hV, rfl, hfz, hnd⟩ := hW
  have hA : DataW.TrodAll enc Try.prog W 0 (fun _ => true) true Try.f13.params.toList args.toList ds p := hA0
  rw [Try.params13] at hA hval
  obtain ⟨v0, vs0, d0, ds0, p0, q0, hargs, rfl, rfl, h0, r0⟩ := trodAll_cons hA
  obtain ⟨v1, vs1, d1, ds1, p1, q1, rfl, rfl, rfl, h1, r1⟩ := trodAll_cons r0
  obtain ⟨v2, vs2, d2, ds2, p2, q2, rfl, rfl, rfl, h2, r2⟩ := trodAll_cons r1
  obtain ⟨v3, vs3, d3, ds3, p3, q3, rfl, rfl, rfl, h3, r3⟩ := trodAll_cons r2
  obtain ⟨rfl, rfl, rfl⟩ := trodAll_nil r3
  obtain rfl : args = #[v0, v1, v2, v3] := by cases args; simp_all
  obtain ⟨rfl, rfl⟩ := trodVars_none hV
  obtain ⟨a0, len0, cap0, rfl⟩ := okWide_slice Try.underlying58 (hval 0 58 v0 rfl rfl)
  have k0 := h0
  have lt0 : ∀ x ∈ p0, x.block < W.heap.size := by obtain ⟨m, hm⟩ := k0; exact DataW.trod_lt m _ _ _ hm
  obtain ⟨s0, z0, w0, c0⟩ := dslab_in h0
  obtain ⟨a1, len1, cap1, rfl⟩ := okWide_slice Try.underlying65 (hval 1 65 v1 rfl rfl)
  have k1 := h1
  have lt1 : ∀ x ∈ p1, x.block < W.heap.size := by obtain ⟨m, hm⟩ := k1; exact DataW.trod_lt m _ _ _ hm
  obtain ⟨z1, w1, c1, m1⟩ := bools_in h1
  obtain ⟨a2, rfl, rfl, rfl, w2⟩ := open_int Try.underlying3 (hval 2 3 v2 rfl rfl) h2
  obtain ⟨a3, rfl, rfl, rfl, w3⟩ := open_int Try.underlying3 (hval 3 3 v3 rfl rfl) h3
  clear hA0 hval0
  refine (actsKept_walk W a0 len0 cap0 s0 z0 w0 c0 a1 len1 cap1 z1 w1 c1 m1 a2 w2 a3 w3).mono fun e W' ⟨he, bel⟩ => ?_
  subst he
  exact ⟨_, rfl, _, _, _, [], _, [], hW', trodAll_mk1 (shut_bool Try.underlying4 _), (trodAll_cons_mk (Below.trod Try.laidOut (by kernel_rfl) (of_decide_eq_true (by kernel_rfl)) k0 bel lt0) (trodAll_cons_mk (Below.trod Try.laidOut (by kernel_rfl) (of_decide_eq_true (by kernel_rfl)) k1 bel lt1) (trodAll_cons_mk (shut_int Try.underlying3 w2) (trodAll_cons_mk (shut_int Try.underlying3 w3) trodAll_mk0)))), rfl, bel.frame _, fun h => by cases h⟩

theorem holds : Rows.ActsKeptSaid :=
  OpenClaim.holds_of_wide 13 Try.f13 rfl rfl rfl rfl rfl rfl rfl ⟨rfl, rfl, rfl, rfl, rfl⟩ rfl rfl rfl rfl rfl (by kernel_rfl) Try.func13 (by kernel_rfl)
    (of_decide_eq_true (by kernel_rfl)) (by unfold Func.isWrapper; first | (rw [if_pos (by decide +kernel)]; kernel_rfl) | (rw [if_neg (by decide +kernel)]; exact ⟨rfl, rfl⟩))
    (fun os started H enc _ => lifted os started H enc)
end actsKept
end Go.Proofs.Ytldgpkaecfgagaa
