/- The walks of the reference's Crash of layer 5, and of the law's spoil over a list. -/
import Derived.Test.YtldgpkaecfgagaaRefEC
namespace Go.Proofs.Ytldgpkaecfgagaa
open Go.RowKit PolyM PackM FoldM DevM

def cutR (ds : List Dev) (bs : List Bool) : List Dev := if crashE ds bs = 0 then cutL ds (bs ++ List.replicate (manyL ds - bs.length) false) else []
def CutIs (w : World) (er : Int) (ds : List Dev) (e : Ending) (w' : World) : Prop :=
  ∃ a' n' C' hs', e = .returned (.tuple #[.slice a' n' C', .int .i64 er]) ∧ DSlab w' a' n' hs' ds ∧ Below w.heap.size w w'
theorem CutIs.none {w w' : World} (er : Int) (hb : Below w.heap.size w w') : CutIs w er [] (.returned (.tuple #[.slice none 0 0, .int .i64 er])) w' := ⟨_, 0, 0, [], rfl, ⟨⟨rfl, .inl rfl⟩, by omega, ⟨rfl, fun i d h => by simp at h⟩⟩, hb⟩
theorem refcrash_calls (a : Option Addr) (n c : Nat) (hs : List Value) (ds : List Dev) (aK : Option Addr) (nK cK : Nat) (bs : List Bool) (w : World) (h : DSlab w a n hs ds) (hk : Row w 1 aK nK (bs.map Value.bool)) (hm : nK ≤ 1000000) :
    Calls Try.prog 58 #[.slice a n c, .slice aK nK cK] w (CutIs w (crashE ds bs) (cutR ds bs)) := by
  have cc := refmayl_calls a n c hs ds w h
  have hbl : bs.length = nK := by have := hk.1; simpa using this
  by_cases hM : MayL ds
  · rw [decide_eq_true hM] at cc
    have c2 := fun W (hW : Below w.heap.size w W) => refmany_calls a n c hs ds W (h.below hW (Nat.le_refl _)) hM
    have hW : manyL ds ≤ 17408 := by
      have t1 := manyL_le (l := ds) fun x hx => (hM.2.2 x hx).2.2.1
      have := hM.2.1
      omega
    by_cases hlt : manyL ds < bs.length
    · have E : crashE ds bs = 2 := (if_neg (fun q => q hM)).trans (if_pos hlt)
      rw [show cutR ds bs = [] from if_neg (by rw [E]; omega), E]
      have d0 : (manyL ds : Int) < (nK : Int) := by omega
      have d1 : decide (manyL ds < nK) = true := decide_eq_true (by omega)
      clear h hk hM hlt E hbl
      generalize manyL ds = M at *
      go_enter Try.func58, Try.ntmps58
      go_wp2_with fail
      (with_reducible refine cc.mono ?_)
      rintro e w2 ⟨rfl, hb2⟩
      go_wp2_with fail
      (with_reducible refine (c2 _ hb2).mono ?_)
      rintro e w3 ⟨rfl, hb3⟩
      go_wp2
      go_ret2
      exact CutIs.none _ (hb2.trans (hb3.mono hb2.size))
    · have E : crashE ds bs = 0 := (if_neg (fun q => q hM)).trans (if_neg hlt)
      rw [show cutR ds bs = _ from if_pos E, E]
      have c3 := fun W (hW : Below w.heap.size w W) => refcut_calls a n c hs ds aK nK cK bs (bs ++ List.replicate (manyL ds - bs.length) false) W (h.below hW (Nat.le_refl _)) hM (hk.below hW (Nat.le_refl _)) hm (fun q hq => by
        rcases Nat.lt_or_ge q bs.length with t | t
        · rw [List.getElem?_append_left t, List.getD_eq_getElem?_getD, List.getElem?_eq_getElem t]; rfl
        · rw [List.getElem?_append_right t, List.getD_eq_getElem?_getD, List.getElem?_eq_none t, List.getElem?_replicate, if_pos (by omega)]; rfl)
      have d0 : ¬ (manyL ds : Int) < (nK : Int) := by omega
      have d1 : decide (manyL ds < nK) = false := decide_eq_false (by omega)
      have d2 := decide_eq_false d0
      generalize cutL ds (bs ++ List.replicate (manyL ds - bs.length) false) = l at *
      clear h hk hM hlt E hbl
      generalize manyL ds = M at *
      go_enter Try.func58, Try.ntmps58
      go_wp2_with fail
      (with_reducible refine cc.mono ?_)
      rintro e w2 ⟨rfl, hb2⟩
      go_wp2_with fail
      (with_reducible refine (c2 _ hb2).mono ?_)
      rintro e w3 ⟨rfl, hb3⟩
      have hB3 := hb2.trans (hb3.mono hb2.size)
      clear cc c2 hb2 hb3
      go_wp2_with fail
      (with_reducible refine (c3 _ hB3).mono ?_)
      rintro e w4 ⟨a', C', hs', rfl, hS, hb4⟩
      have hB4 := hB3.trans (hb4.mono hB3.size)
      have HS := Lib.hid hS
      clear c3 hB3 hb4 hS
      go_wp2
      go_ret2
      exact ⟨a', n, C', hs', rfl, HS.out, hB4⟩
  · rw [decide_eq_false hM] at cc
    have E : crashE ds bs = 8 := if_pos hM
    rw [show cutR ds bs = [] from if_neg (by rw [E]; omega), E]
    clear h hk hM E hbl
    go_enter Try.func58, Try.ntmps58
    go_wp2_with fail
    (with_reducible refine cc.mono ?_)
    rintro e w2 ⟨rfl, hb2⟩
    go_wp2
    go_ret2
    exact CutIs.none _ hb2

/-- What holds while a list of devices is written over. -/
structure SpsAt (K M : Nat) (w : World) (g n C : Nat) (hs : List Value) (hh hw : Nat → List Value) (wr : World) : Prop where
  own : wr.ownsRow K 25 3 (.slice (some ⟨g, 0, none⟩) n C) n hs
  each : ∀ i A l C' B m D, i < n → hs[i * 3]? = some (.slice A l C') → hs[i * 3 + 1]? = some (.slice B m D) → Sp K M wr A l C' (hh i) B m D (hw i)
  frm : Below K w wr
theorem SpsAt.byte {K M : Nat} {w : World} {g n C : Nat} {hs : List Value} {hh hw : Nat → List Value} {wr : World} (h : SpsAt K M w g n C hs hh hw wr) {b o : Nat} {cs : Array Value} (hk : wr.heap[b]? = some (.cells cs 5 (0, 0))) (hb : K ≤ b) {z : Int} (h0 : 0 ≤ z) (h1 : z < 256) :
    SpsAt K M w g n C hs hh hw (wr.setCell ⟨b, o, none⟩ (.int .u8 z)) :=
  ⟨own_other h.own (fun q => own_kind h.own hk (by decide) q.symm) _, fun i A l C' B m D hi q0 q1 => (h.each i A l C' B m D hi q0 q1).byte hk (u8_wf h0 h1), h.frm.setCell hb _⟩

set_option maxRecDepth 100000 in
set_option maxHeartbeats 4000000 in
theorem spoils_calls (v : Value) (ds : List Dev) (K : Nat) (w : World) (h : DevsN K w v ds) (_hK : K ≤ w.heap.size) :
    Calls Try.prog 57 #[v] w fun e w' => e = .returned (.tuple #[]) ∧ Below K w w' := by
  rcases h with ⟨rfl, rfl⟩ | ⟨g, n, C, hs, rfl, hO, hl, hn⟩
  · go_enter Try.func57, Try.ntmps57
    go_wp2
    go_loopw [2] (fun i wr => i = .int .i64 0 ∧ Below K w wr) (fun _ _ => 0)
    case atStart => exact ⟨rfl, Below.refl _ _⟩
    case round =>
      obtain ⟨rfl, hB⟩ := hrel
      go_wp2
      exact bodyPost_end (results_none (by rfl) _ _ _) rfl ⟨rfl, hB⟩
  · have hX : ∀ i, ∃ p : List Value × List Value, i < n → ∃ A l C' B m D dd, hs[i * 3]? = some (.slice A l C') ∧ hs[i * 3 + 1]? = some (.slice B m D) ∧ hs[i * 3 + 2]? = some (.bool dd) ∧ Sp K w.heap.size w A l C' p.1 B m D p.2 ∧ l ≤ 9223372036854775807 ∧ m ≤ 9223372036854775807 := by
      intro i
      by_cases hi : i < n
      · obtain ⟨A, l, C', B, m, D, q0, q1, q2, q3⟩ := hO.each i _ hi (List.getElem?_eq_getElem (by omega))
        obtain ⟨A1, l1, C1, h1, B1, m1, D1, h2, e, hS, t1, t2⟩ := q3.toSp
        simp only [Value.agg.injEq, Array.mk.injEq, List.cons.injEq, Value.slice.injEq, and_true] at e
        obtain ⟨⟨rfl, rfl, rfl⟩, rfl, rfl, rfl⟩ := e
        exact ⟨(h1, h2), fun _ => ⟨A, l, C', B, m, D, _, q0, q1, q2, hS, t1, t2⟩⟩
      · exact ⟨([], []), fun q => absurd q hi⟩
    obtain ⟨f, hf⟩ := Classical.axiomOfChoice hX
    have hS0 : Hid (SpsAt K w.heap.size w g n C hs (fun i => (f i).1) (fun i => (f i).2) w) := Lib.hid ⟨hO.own, fun i A l C' B m D hi q0 q1 => by
      obtain ⟨A1, l1, C1, B1, m1, D1, dd, p0, p1, p2, hS, _⟩ := hf i hi
      rw [p0] at q0
      rw [p1] at q1
      cases q0
      cases q1
      exact hS, Below.refl _ _⟩
    have HX := Lib.hid (show ∀ i, i < n → ∃ A l C' B m D dd, hs[i * 3]? = some (.slice A l C') ∧ hs[i * 3 + 1]? = some (.slice B m D) ∧ hs[i * 3 + 2]? = some (.bool dd) ∧ l ≤ 9223372036854775807 ∧ m ≤ 9223372036854775807 from fun i hi => by
      obtain ⟨A1, l1, C1, B1, m1, D1, dd, p0, p1, p2, _, t⟩ := hf i hi
      exact ⟨A1, l1, C1, B1, m1, D1, dd, p0, p1, p2, t⟩)
    generalize (fun i => (f i).1) = hh at *
    generalize (fun i => (f i).2) = hw at *
    clear hO hX hf f hl
    generalize w.heap.size = M at *
    go_enter Try.func57, Try.ntmps57
    go_wp2
    go_loopw [2] (fun iv wr => ∃ i : Nat, i ≤ n ∧ iv = .int .i64 i ∧ SpsAt K M w g n C hs hh hw wr) (fun iv _ => n - (intOf iv).toNat)
    case atStart => exact ⟨0, by omega, rfl, hS0.out⟩
    case round =>
      obtain ⟨i, hi, rfl, hS⟩ := hrel
      clear hS0
      by_cases hin : i < n
      · obtain ⟨A, l, C', B, m, D, dd, q0, q1, q2, m1, m2⟩ := HX.out i hin
        have hin1 : (i : Int) < (n : Int) := by omega
        have HE := Lib.hid (show ∀ W, SpsAt K M w g n C hs hh hw W → Sp K M W A l C' (hh i) B m D (hw i) from fun W q => q.each i _ _ _ _ _ _ hin q0 q1)
        have HC := Lib.hid (show ∀ W, SpsAt K M w g n C hs hh hw W → W.cell? ⟨g, i * 3, none⟩ = some (.slice A l C') ∧ W.cell? ⟨g, i * 3 + 1, none⟩ = some (.slice B m D) from fun W q => ⟨(own_cell q.own q0).1, (own_cell q.own q1).1⟩)
        have hH := Lib.hid hS
        obtain ⟨wo, rfl⟩ : ∃ x : World, x = wr := ⟨_, rfl⟩
        clear hS q0 q1 q2
        go_wp2
        go_loopw [3] (fun kv wr => ∃ k : Nat, k ≤ l ∧ kv = .int .i64 k ∧ SpsAt K M w g n C hs hh hw wr) (fun kv _ => l - (intOf kv).toNat)
        case atStart => exact ⟨0, by omega, rfl, hH.out⟩
        case round =>
          obtain ⟨k, hk, rfl, hS⟩ := hrel
          clear hH
          have e0 := (HC.out _ hS).1
          by_cases hkl : k < l
          · obtain ⟨g1, A', L, C1, rfl, hi1, hcell, hL⟩ := (HE.out _ hS).head hkl
            have hH := Lib.hid hS
            have hkl1 : (k : Int) < (l : Int) := by omega
            clear hS
            obtain ⟨wp, rfl⟩ : ∃ x : World, x = wr := ⟨_, rfl⟩
            go_wp2
            go_loopw [4] (fun jv wr => ∃ j : Nat, j ≤ L ∧ jv = .int .i64 j ∧ SpsAt K M w g n C hs hh hw wr) (fun jv _ => L - (intOf jv).toNat)
            case atStart => exact ⟨0, by omega, rfl, hH.out⟩
            case round =>
              obtain ⟨j, hj, rfl, hS⟩ := hrel
              clear hH e0 hcell
              have e0 := (HC.out _ hS).1
              have hcell := (own_cell (HE.out _ hS).o1 hi1).1
              have hH := Lib.hid hS
              by_cases hjL : j < L
              · obtain ⟨b, off, z, cs, rfl, c0, c1, ⟨hz0, hz1⟩, hq, hKb⟩ := (HE.out _ hS).byteB hi1 hjL
                have hjL1 : (j : Int) < (L : Int) := by omega
                clear hS
                go_wp2
                go_roundw
                case rel => exact ⟨j + 1, by omega, by go_num, hH.out.byte hq hKb.1 (by omega) (by omega)⟩
                case measure => simp [intOf]; omega
              · obtain rfl : L = j := by omega
                clear hS
                go_wp2
                go_roundw
                case rel => exact ⟨k + 1, by omega, by go_num, hH.out⟩
                case measure => simp [intOf]; omega
          · obtain rfl : l = k := by omega
            have hH := Lib.hid hS
            clear hS
            obtain ⟨wp, rfl⟩ : ∃ x : World, x = wr := ⟨_, rfl⟩
            go_wp2
            clear e0
            go_loopw [5] (fun kv wr => ∃ k : Nat, k ≤ m ∧ kv = .int .i64 k ∧ SpsAt K M w g n C hs hh hw wr) (fun kv _ => m - (intOf kv).toNat)
            case atStart => exact ⟨0, by omega, rfl, hH.out⟩
            case round =>
              obtain ⟨k, hk', rfl, hS⟩ := hrel
              clear hH
              have e1 := (HC.out _ hS).2
              by_cases hkm : k < m
              · obtain ⟨g1, z, A', L, C1, rfl, hi1, hc0, hf0, hcell, hL, hKg, hg⟩ := (HE.out _ hS).wait hkm
                have hH := Lib.hid hS
                have hkm1 : (k : Int) < (m : Int) := by omega
                clear hS hc0 hf0
                obtain ⟨wq, rfl⟩ : ∃ x : World, x = wr := ⟨_, rfl⟩
                go_wp2
                go_loopw [6] (fun jv wr => ∃ j : Nat, j ≤ L ∧ jv = .int .i64 j ∧ SpsAt K M w g n C hs hh hw wr) (fun jv _ => L - (intOf jv).toNat)
                case atStart => exact ⟨0, by omega, rfl, hH.out⟩
                case round =>
                  obtain ⟨j, hj, rfl, hS⟩ := hrel
                  clear hH e1 hcell
                  have e1 := (HC.out _ hS).2
                  have hcell := (own_cell (HE.out _ hS).o2 hi1).1
                  have hH := Lib.hid hS
                  by_cases hjL : j < L
                  · obtain ⟨b, off, z', cs, rfl, c0, c1, ⟨hz0, hz1⟩, hq, hKb⟩ := (HE.out _ hS).byteW hkm hi1 hjL
                    have hjL1 : (j : Int) < (L : Int) := by omega
                    clear hS
                    go_wp2
                    go_roundw
                    case rel => exact ⟨j + 1, by omega, by go_num, hH.out.byte hq hKb.1 (by omega) (by omega)⟩
                    case measure => simp [intOf]; omega
                  · obtain rfl : L = j := by omega
                    clear hS
                    go_wp2
                    go_roundw
                    case rel => exact ⟨k + 1, by omega, by go_num, hH.out⟩
                    case measure => simp [intOf]; omega
              · obtain rfl : m = k := by omega
                have hH := Lib.hid hS
                clear hS
                go_wp2
                go_roundw
                case rel => exact ⟨i + 1, by omega, by go_num, hH.out⟩
                case measure => simp [intOf]; omega
      · obtain rfl : n = i := by omega
        have hH := Lib.hid hS.frm
        clear hS
        go_wp2
        exact bodyPost_end (results_none (by rfl) _ _ _) rfl ⟨rfl, hH.out⟩
end Go.Proofs.Ytldgpkaecfgagaa
