/- freeboardlaw05.ActsAll: for every input the law answers true, and what is handed in reads as it did. Conditions: none. -/
import Derived.Test.YtldgpkaecfgagaaActOpen
import Derived.Test.YtldgpkaecfgagaaActJ
import Derived.Test.YtldgpkaecfgagaaActK
namespace Go.Proofs.Ytldgpkaecfgagaa
open Go.ChangeShapes Go.WideShapes Go.ChangeAt Go.RowKit PolyM PackM FoldM DevM
theorem make_bools (n : Nat) (hn : n ≤ 1000000) (W : World) : (Instr.makeSlice 65 (.int .i64 (n : Int)) (.int .i64 (n : Int))).run Try.prog W = .ok (.slice (some ⟨W.heap.size, 0, none⟩) n n) (W.alloc (.cells (madeCells #[.bool false] n) 4)) :=
  run_make_row' (P := Try.prog) 65 4 (.bool false) 1 Try.underlying65 (by kernel_rfl) rfl .i64 .i64 n (by omega) (by omega) W
/-- Marks of which the first k are true. -/
def marksK (n k : Nat) : Array Value := ((List.range n).map fun i => Value.bool (decide (i < k))).toArray
theorem marks_zero (n : Nat) : madeCells #[.bool false] n = marksK n 0 := by
  apply Array.ext'
  apply List.ext_getElem?
  intro i
  simp [madeCells, marksK, Nat.mod_one]
theorem marks_set {n k : Nat} (h : k < n) : (marksK n k).setIfInBounds k (.bool true) = marksK n (k + 1) := by
  apply Array.ext'
  apply List.ext_getElem?
  intro i
  simp only [marksK, Array.toList_setIfInBounds, List.getElem?_set, List.getElem?_map, List.length_map, List.length_range]
  by_cases e : k = i
  · subst e
    rw [if_pos rfl, if_pos h, List.getElem?_range h]
    simp
  · rw [if_neg e]
    rcases Nat.lt_or_ge i n with q | q
    · rw [List.getElem?_range q]
      simp only [Option.map_some, Option.some.injEq, Value.bool.injEq, decide_eq_decide]
      omega
    · rw [List.getElem?_eq_none (by simpa using q)]; rfl
theorem marks_row {w : World} {g n : Nat} (h : w.heap[g]? = some (.cells (marksK n n) 4 (0, 0))) : Row w 1 (some ⟨g, 0, none⟩) n ((List.replicate n true).map Value.bool) := by
  have e : (List.replicate n true).map Value.bool = (marksK n n).toList := by
    apply List.ext_getElem?
    intro i
    simp only [marksK, List.map_replicate, List.getElem?_replicate, List.getElem?_map]
    by_cases q : i < n
    · rw [if_pos q, List.getElem?_range q]; simp [q]
    · rw [if_neg q, List.getElem?_eq_none (by simpa using q)]; rfl
  refine ⟨by simp, .inr ⟨g, 0, rfl, heap_lt h, fun i v hv => ?_⟩⟩
  rw [Nat.zero_add, cell_of_row _ _ _ _ _ _ h, ← Array.getElem?_toList, ← e]
  exact hv
theorem crashAll {ds : List Dev} (h : MayL ds) : crashE ds (List.replicate (manyL ds) true) = 0 ∧ crashR ds (List.replicate (manyL ds) true) = crashL ds (List.replicate (manyL ds) true) := by
  have e : crashE ds (List.replicate (manyL ds) true) = 0 := by
    unfold crashE
    rw [if_neg (fun q => q h), if_neg (by simp)]
  refine ⟨e, ?_⟩
  unfold crashR
  rw [if_pos e]
  simp
theorem useE_bounds (d : Dev) (k : Int) : (useE d k [] = 0 ∧ MayD d ∧ 0 ≤ k ∧ k < d.blocks.length) ∨ useE d k [] ≠ 0 := by
  by_cases h : useE d k [] = 0
  · obtain ⟨q1, q2, q3, _⟩ := useE_zero h
    exact .inl ⟨h, q1, q2, q3⟩
  · exact .inr h
theorem all_res {d : Dev} (h : MayD d) (k : Int) : resB (useE d k []) (lies (keptD d (List.replicate d.wait.length true)) k) = resB (useE d k []) (seen d k) := by
  rcases useE_bounds d k with ⟨e, _, q2, q3⟩ | e
  · rw [all_true h q2 q3]
  · rw [resB_not e, resB_not e]

set_option maxHeartbeats 16000000 in
set_option maxRecDepth 100000 in
theorem actsAll_walk (w : World) (a : Option Addr) (n c : Nat) (hs : List Value) (ds : List Dev) (hv : DSlab w a n hs ds) (_hc : n ≤ c) (at_ : Int) (_wa : (Lit.int .i64 at_).wf = true) (pl : Int) (wp : (Lit.int .i64 pl).wf = true) :
    Calls Try.prog 14 #[.slice a n c, .int .i64 at_, .int .i64 pl] w fun e w' => e = .returned (.bool true) ∧ Below w.heap.size w w' := by
  have hl0 := Lib.hid hv.len
  go_enter Try.func14, Try.ntmps14
  have hB := Below.refl w.heap.size w
  go_wp2_with fail
  (with_reducible refine (alive5_calls _).mono ?_)
  rintro e w1 ⟨rfl, hb⟩
  replace hv := hv.below hb (Nat.le_refl _)
  replace hB := hB.trans (hb.mono hB.size)
  clear hb
  by_cases hM : MayL ds
  · have cW := fun W hs (h : DSlab W a n hs ds) => actwaits_calls a n c hs ds W h
    rw [if_pos hM, show chkL ds = 0 from if_pos hM] at cW
    have hW : manyL ds ≤ 17408 := by
      have t1 := manyL_le (l := ds) fun x hx => (hM.2.2 x hx).2.2.1
      have := hM.2.1
      omega
    obtain ⟨c1, c2⟩ := crashAll hM
    have cC := fun W hs (h : DSlab W a n hs ds) aK (hk : Row W 1 aK (manyL ds) ((List.replicate (manyL ds) true).map Value.bool)) => crash_calls a n c hs ds aK (manyL ds) (manyL ds) _ W h hk (Nat.le_refl _) (by omega)
    rw [c1, c2] at cC
    have cD := fun W hs (h : DSlab W a n hs ds) => crash_calls a n c hs ds none 0 0 [] W h (nil_row W) (by omega) (by omega)
    rw [crashE_nil hM, crashR_nil hM] at cD
    have K1 := Lib.hid (fun i d (h : ds[i]? = some d) => crash_rep true h (Nat.le_refl (manyL ds)))
    have K2 := Lib.hid (fun i d (h : ds[i]? = some d) => crash_rep false h (Nat.le_refl (manyL ds)))
    have L1 : (crashL ds (List.replicate (manyL ds) true)).length = n := by rw [crashL_len]; exact hl0.out
    have L2 : (crashL ds (List.replicate (manyL ds) false)).length = n := by rw [crashL_len]; exact hl0.out
    have hmk := make_bools (manyL ds) (by omega)
    rw [marks_zero] at hmk
    have HM := Lib.hid hM
    generalize crashL ds (List.replicate (manyL ds) true) = al at *
    generalize crashL ds (List.replicate (manyL ds) false) = bl at *
    clear c1 c2 hM
    generalize manyL ds = M at *
    go_wp2_with fail
    (with_reducible refine (cW _ _ hv).mono ?_)
    rintro e w2 ⟨rfl, hb⟩
    replace hv := hv.below hb (Nat.le_refl _)
    replace hB := hB.trans (hb.mono hB.size)
    clear hb
    go_wp2_with fail
    (with_reducible refine (great5_calls _ _ _ _ _ _ hv).mono ?_)
    rintro e w3 ⟨⟨r, rfl, hR⟩, hb⟩
    replace hv := hv.below hb (Nat.le_refl _)
    replace hB := hB.trans (hb.mono hB.size)
    clear hb
    rcases r with _ | _
    case true =>
      go_wp2
      go_ret
      exact ⟨rfl, hB⟩
    clear hR cW
    by_cases q0 : at_ < 0
    · have d2 : decide (at_ < 0) = true := decide_eq_true q0
      go_wp2
      go_ret
      exact ⟨rfl, hB⟩
    have d2 : decide (at_ < 0) = false := decide_eq_false q0
    by_cases q1 : (n : Int) ≤ at_
    · have d3 : decide ((n : Int) ≤ at_) = true := decide_eq_true q1
      go_wp2
      go_ret
      exact ⟨rfl, hB⟩
    have d3 : decide ((n : Int) ≤ at_) = false := decide_eq_false q1
    obtain ⟨j, rfl⟩ : ∃ q : Nat, at_ = q := ⟨at_.toNat, by omega⟩
    have hjn : j < n := by omega
    have hjn1 : (j : Int) < (n : Int) := by omega
    have d3n : decide (n ≤ j) = false := decide_eq_false (by omega)
    have hg0 : Hid ((w3.alloc (.cells (marksK M 0) 4)).heap[w3.heap.size]? = some (.cells (marksK M 0) 4 (0, 0)) ∧ Below w3.heap.size w3 (w3.alloc (.cells (marksK M 0) 4))) := Lib.hid ⟨heap_alloc_new _ _, (Below.refl _ _).alloc (Nat.le_refl _) _⟩
    obtain ⟨g, hgE⟩ : ∃ g, g = w3.heap.size := ⟨_, rfl⟩
    go_wp2
    go_loopw [11] (fun i wr => ∃ k : Nat, k ≤ M ∧ i = .int .i64 k ∧ wr.heap[w3.heap.size]? = some (.cells (marksK M k) 4 (0, 0)) ∧ Below w3.heap.size w3 wr) (fun i _ => M - (intOf i).toNat)
    case atStart => exact ⟨0, by omega, rfl, hg0.out.1, hg0.out.2⟩
    case round =>
      obtain ⟨k, hk, rfl, hg, hBr⟩ := hrel
      clear hg0
      by_cases hkm : k < M
      · have hkm1 : (k : Int) < (M : Int) := by omega
        have hcell : wr.cell? ⟨w3.heap.size, k, none⟩ = some (.bool (decide (k < k))) := by
          rw [cell_of_row _ _ _ _ _ _ hg, ← Array.getElem?_toList]
          simp [marksK, hkm]
        have hfr : wr.frozen? ⟨w3.heap.size, k, none⟩ = false := frozen_of_row _ _ _ _ _ hg
        have hset := heap_setCell_same _ _ k _ _ (.bool true) hg
        rw [marks_set hkm] at hset
        have HSET := Lib.hid hset
        clear hset hg
        go_wp2
        go_roundw
        case rel => exact ⟨k + 1, by omega, by go_num, HSET.out, hBr.setCell (Nat.le_refl _) _⟩
        case measure => simp [intOf]; omega
      · obtain rfl : M = k := by omega
        have hrow := marks_row hg
        have hv2 := hv.below hBr (Nat.le_refl _)
        replace hB := hB.trans (hBr.mono hB.size)
        clear hv hg hBr
        go_wp2_with fail
        (with_reducible refine (cC _ _ hv2 _ hrow).mono ?_)
        rintro e w11 ⟨v1, rfl, hD1, hb⟩
        obtain ⟨a1, n1, C1, hs1, rfl, hS1⟩ := hD1.slab
        obtain rfl : n = n1 := by rw [← hS1.len, L1]
        clear hD1 cC hrow
        replace hv2 := hv2.below hb (Nat.le_refl _)
        replace hB := hB.trans (hb.mono hB.size)
        clear hb
        go_wp2_with fail
        (with_reducible refine (cD _ _ hv2).mono ?_)
        rintro e w12 ⟨v2, rfl, hD2, hb⟩
        obtain ⟨a2, n2, C2, hs2, rfl, hS2⟩ := hD2.slab
        obtain rfl : n = n2 := by rw [← hS2.len, L2]
        clear hD2 cD
        replace hv2 := hv2.below hb (Nat.le_refl _)
        replace hS1 := hS1.below hb (Nat.le_refl _)
        replace hB := hB.trans (hb.mono hB.size)
        clear hb
        obtain ⟨b, off, A, l, C, B, m, D, d, rfl, hd, hlt, g0, g1, g2, hvd⟩ := hv2.at hjn
        obtain ⟨b1, off1, A1, l1, C3, B1, m1, D1, d1', rfl, hd1, hlt1, k0, k1, k2, hv1⟩ := hS1.at hjn
        rw [K1.out j d hd] at hd1
        obtain rfl := Option.some.inj hd1
        obtain ⟨b2, off2, A2, l2, C4, B2, m2, D2, d2', rfl, hd2, hlt2, e0, e1, e2, hv3⟩ := hS2.at hjn
        rw [K2.out j d hd] at hd2
        obtain rfl := Option.some.inj hd2
        have hMd := HM.out.2.2 d (List.mem_of_getElem? hd)
        have cR := fun W (hW : Below w12.heap.size w12 W) => read_calls _ d pl W (hvd.below hW (Nat.le_refl _))
        have cX := fun W (hW : Below w12.heap.size w12 W) => lasting_calls _ _ pl W (hv1.below hW (Nat.le_refl _))
        have cY := fun W (hW : Below w12.heap.size w12 W) => lasting_calls _ d pl W (hvd.below hW (Nat.le_refl _))
        have cZ := fun W (hW : Below w12.heap.size w12 W) => lasting_calls _ _ pl W (hv3.below hW (Nat.le_refl _))
        rw [kept_use hMd, all_res hMd] at cX
        rw [kept_use hMd, none_true] at cZ
        rw [show (keptD d (List.replicate d.wait.length true)).dead = d.dead from rfl] at cX k2
        rw [show (keptD d (List.replicate d.wait.length false)).dead = d.dead from rfl] at cZ e2
        have HS : Hid (∀ W, Below w12.heap.size w12 W → (W.cell? ⟨b, off + j * 3, none⟩ = some (.slice A l C) ∧ W.cell? ⟨b, off + j * 3 + 1, none⟩ = some (.slice B m D) ∧ W.cell? ⟨b, off + j * 3 + 2, none⟩ = some (.bool d.dead)) ∧ (W.cell? ⟨b1, off1 + j * 3, none⟩ = some (.slice A1 l1 C3) ∧ W.cell? ⟨b1, off1 + j * 3 + 1, none⟩ = some (.slice B1 m1 D1) ∧ W.cell? ⟨b1, off1 + j * 3 + 2, none⟩ = some (.bool d.dead)) ∧ (W.cell? ⟨b2, off2 + j * 3, none⟩ = some (.slice A2 l2 C4) ∧ W.cell? ⟨b2, off2 + j * 3 + 1, none⟩ = some (.slice B2 m2 D2) ∧ W.cell? ⟨b2, off2 + j * 3 + 2, none⟩ = some (.bool d.dead))) := Lib.hid fun W hW => ⟨⟨(hW.cell (p := ⟨b, off + j * 3, none⟩) hlt).trans g0, (hW.cell (p := ⟨b, off + j * 3 + 1, none⟩) hlt).trans g1, (hW.cell (p := ⟨b, off + j * 3 + 2, none⟩) hlt).trans g2⟩, ⟨(hW.cell (p := ⟨b1, off1 + j * 3, none⟩) hlt1).trans k0, (hW.cell (p := ⟨b1, off1 + j * 3 + 1, none⟩) hlt1).trans k1, (hW.cell (p := ⟨b1, off1 + j * 3 + 2, none⟩) hlt1).trans k2⟩, ⟨(hW.cell (p := ⟨b2, off2 + j * 3, none⟩) hlt2).trans e0, (hW.cell (p := ⟨b2, off2 + j * 3 + 1, none⟩) hlt2).trans e1, (hW.cell (p := ⟨b2, off2 + j * 3 + 2, none⟩) hlt2).trans e2⟩⟩
        clear hv2 hS1 hS2 hd hvd hv1 hv3 hMd HM K1 K2 k0 k1 k2 e0 e1 e2 hd1 hd2 L1 L2 hlt hlt1 hlt2
        generalize resB (useE d pl []) (seen d pl) = X at *
        generalize resB (useE d pl []) (lies d pl) = Y at *
        generalize useE d pl [] = er at *
        generalize d.dead = dd at *
        go_wp2_with fail
        (with_reducible refine (cR _ (Below.refl _ _)).mono ?_)
        rintro e w13 ⟨Aw, Lw, Cw, rfl, hFw, hb13⟩
        obtain ⟨⟨g0, g1, g2⟩, ⟨k0, k1, k2⟩, -⟩ := HS.out w13 hb13
        clear cR
        go_wp2_with fail
        (with_reducible refine (cX _ hb13).mono ?_)
        rintro e w14 ⟨Ax, Lx, Cx, rfl, hFx, hb14⟩
        replace hFw := hFw.below hb14
        have h14 := hb13.trans (hb14.mono hb13.size)
        clear cX k0 k1 k2 g0 g1 g2 hb13 hb14
        obtain ⟨⟨g0, g1, g2⟩, -, -⟩ := HS.out w14 h14
        go_wp2_with fail
        (with_reducible refine (cY _ h14).mono ?_)
        rintro e w15 ⟨Ay, Ly, Cy, rfl, hFy, hb15⟩
        replace hFw := hFw.below hb15
        replace hFx := hFx.below hb15
        replace h14 := h14.trans (hb15.mono h14.size)
        clear cY g0 g1 g2 hb15
        obtain ⟨-, -, ⟨k0, k1, k2⟩⟩ := HS.out w15 h14
        go_wp2_with fail
        (with_reducible refine (cZ _ h14).mono ?_)
        rintro e w16 ⟨Az, Lz, Cz, rfl, hFz, hb16⟩
        have tw := (hFw.below hb16).text (Below.refl _ _)
        have tx := (hFx.below hb16).text (Below.refl _ _)
        have ty := (hFy.below hb16).text (Below.refl _ _)
        have tz := hFz.text (Below.refl _ _)
        have hBf := hB.trans ((h14.trans (hb16.mono h14.size)).mono hB.size)
        clear cZ k0 k1 k2 hb16 h14 hFw hFx hFy hFz HS hB
        go_wp2
        go_ret
        exact ⟨rfl, hBf⟩
  · have cW := fun W hs (h : DSlab W a n hs ds) => actwaits_calls a n c hs ds W h
    rw [if_neg hM, show chkL ds = 8 from if_neg hM] at cW
    clear hM
    go_wp2_with fail
    (with_reducible refine (cW _ _ hv).mono ?_)
    rintro e w31 ⟨rfl, hb⟩
    clear cW
    replace hv := hv.below hb (Nat.le_refl _)
    replace hB := hB.trans (hb.mono hB.size)
    clear hb
    go_wp2_with fail
    (with_reducible refine (great5_calls _ _ _ _ _ _ hv).mono ?_)
    rintro e w32 ⟨⟨r, rfl, hR⟩, hb⟩
    clear hR hv
    replace hB := hB.trans (hb.mono hB.size)
    clear hb
    rcases r with _ | _
    case true =>
      go_wp2
      go_ret
      exact ⟨rfl, hB⟩
    go_wp2
    go_ret
    exact ⟨rfl, hB⟩

namespace actsAll
set_option linter.unusedVariables false
set_option maxRecDepth 100000 in
theorem lifted (os : Os) (started : os.Started) (H : Type) (enc : TypeId × Value → H) :
    ReturnsInHanded {} Try.checked os 14 .any (Rows.actsAllSpec.pre6 enc Try.prog Try.f14 Rows.actsAllRow.domain false) (Rows.actsAllSpec.post enc Try.prog Try.f14 false true false false) := by
  refine returnsInHanded_of_change (C := Try.checked) Try.own started (by kernel_rfl) Try.func14
    (ChangeSpec.witness6 (enc := enc) (C := Try.checked) false ⟨#[], #[.slice none 0 0, .int .i64 0, .int .i64 0], []⟩ 8 (by kernel_rfl) (by kernel_rfl) (by kernel_rfl) (by kernel_rfl)) ?_
  intro W base args ds gs before hval0 hW hcnd _
  have hval : ∀ (j : Nat) t v, Try.f14.params[j]? = some t → args[j]? = some v → Value.okWide Try.prog W .any base t v := hval0
  have hW' := hW
  obtain ⟨p, q, hA0, hV, rfl, hfz, hnd⟩ := hW
  have hA : DataW.TrodAll enc Try.prog W 0 (fun _ => true) true Try.f14.params.toList args.toList ds p := hA0
  rw [Try.params14] at hA hval
  obtain ⟨v0, vs0, d0, ds0, p0, q0, hargs, rfl, rfl, h0, r0⟩ := trodAll_cons hA
  obtain ⟨v1, vs1, d1, ds1, p1, q1, rfl, rfl, rfl, h1, r1⟩ := trodAll_cons r0
  obtain ⟨v2, vs2, d2, ds2, p2, q2, rfl, rfl, rfl, h2, r2⟩ := trodAll_cons r1
  obtain ⟨rfl, rfl, rfl⟩ := trodAll_nil r2
  obtain rfl : args = #[v0, v1, v2] := by cases args; simp_all
  obtain ⟨rfl, rfl⟩ := trodVars_none hV
  obtain ⟨a0, len0, cap0, rfl⟩ := okWide_slice Try.underlying58 (hval 0 58 v0 rfl rfl)
  have k0 := h0
  have lt0 : ∀ x ∈ p0, x.block < W.heap.size := by obtain ⟨m, hm⟩ := k0; exact DataW.trod_lt m _ _ _ hm
  obtain ⟨s0, z0, w0, c0⟩ := dslab_in h0
  obtain ⟨a1, rfl, rfl, rfl, w1⟩ := open_int Try.underlying3 (hval 1 3 v1 rfl rfl) h1
  obtain ⟨a2, rfl, rfl, rfl, w2⟩ := open_int Try.underlying3 (hval 2 3 v2 rfl rfl) h2
  clear hA0 hval0
  refine (actsAll_walk W a0 len0 cap0 s0 z0 w0 c0 a1 w1 a2 w2).mono fun e W' ⟨he, bel⟩ => ?_
  subst he
  exact ⟨_, rfl, _, _, _, [], _, [], hW', trodAll_mk1 (shut_bool Try.underlying4 _), (trodAll_cons_mk (Below.trod Try.laidOut (by kernel_rfl) (of_decide_eq_true (by kernel_rfl)) k0 bel lt0) (trodAll_cons_mk (shut_int Try.underlying3 w1) (trodAll_cons_mk (shut_int Try.underlying3 w2) trodAll_mk0))), rfl, bel.frame _, fun h => by cases h⟩

theorem holds : Rows.ActsAllSaid :=
  OpenClaim.holds_of_wide 14 Try.f14 rfl rfl rfl rfl rfl rfl rfl ⟨rfl, rfl, rfl, rfl, rfl⟩ rfl rfl rfl rfl rfl (by kernel_rfl) Try.func14 (by kernel_rfl)
    (of_decide_eq_true (by kernel_rfl)) (by unfold Func.isWrapper; first | (rw [if_pos (by decide +kernel)]; kernel_rfl) | (rw [if_neg (by decide +kernel)]; exact ⟨rfl, rfl⟩))
    (fun os started H enc _ => lifted os started H enc)
end actsAll
end Go.Proofs.Ytldgpkaecfgagaa
