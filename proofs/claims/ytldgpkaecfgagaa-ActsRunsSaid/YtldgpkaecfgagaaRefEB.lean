/- The walks of the reference's Twin, May, Many and Waits of layer 5. -/
import Derived.Test.YtldgpkaecfgagaaRefEA
import Derived.Test.YtldgpkaecfgagaaActH
import Derived.Deep.AppendLies
namespace Go.Proofs.Ytldgpkaecfgagaa
open Go.RowKit PolyM PackM FoldM DevM

/-- A row of devices of the call's own, nil too. -/
structure OutA (K : Nat) (w : World) (v : Value) (n : Nat) (hs : List Value) (ds : List Dev) : Prop where
  own : w.ownsRow K 25 3 v n hs
  len : ds.length = n
  each : ∀ i d, ds[i]? = some d → EntN K w hs i d
theorem DevN.grownOwn {K : Nat} {w w' : World} {v u : Value} {d : Dev} {base n : Nat} {hs0 : List Value} (h : DevN K w v d) (hg : w.grownBy w' u.ownBlock) (own : w.ownsRow base 25 3 u n hs0) : DevN K w' v d := by
  obtain ⟨A1, n1, C1, hs, B, m, D, ht, e, o1, o2, h1, h2, g1, g2, m1, m2⟩ := h
  have kind : ∀ (b : Nat) (cs : Array Value), w.heap[b]? = some (.cells cs 5 (0, 0)) → some b ≠ u.ownBlock := fun b cs hb => own_kind own hb (by decide)
  exact ⟨A1, n1, C1, hs, B, m, D, ht, e, own_grown o1 hg fun q hq e => own_apart o1 own (by decide) hq e.symm, own_grown o2 hg fun q hq e => own_apart o2 own (by decide) hq e.symm, h1.grownH hg (g1.off kind), h2.grownH hg (g2.off kind), g1.grown hg kind, g2.grown hg kind, m1, m2⟩
theorem OutA.below {K : Nat} {w w' : World} {v : Value} {n : Nat} {hs : List Value} {ds : List Dev} (h : OutA K w v n hs ds) (hb : Below w.heap.size w w') : OutA K w' v n hs ds := by
  refine ⟨own_below h.own hb, h.len, fun i d hd => ?_⟩
  obtain ⟨A, l, C', B, m, D, q0, q1, q2, q3⟩ := h.each i d hd
  exact ⟨A, l, C', B, m, D, q0, q1, q2, q3.below hb⟩
theorem OutA.nil (K : Nat) (w : World) : OutA K w (.slice none 0 0) 0 [] [] := ⟨World.ownsRow_nil _ _ _ _, rfl, fun i d h => by simp at h⟩
theorem OutA.push {K : Nat} {W w6 : World} {v v' : Value} {n : Nat} {hs : List Value} {ds : List Dev} {A B : Option Addr} {l C' m D : Nat} {d : Dev} {dd : Bool} (hdd : d.dead = dd) (h : OutA K W v n hs ds) (hN : DevN K W (.agg #[.slice A l C', .slice B m D, .bool dd]) d) (o6 : w6.ownsRow K 25 3 v' (n + 1) (hs ++ [.slice A l C', .slice B m D, .bool dd])) (hg : W.grownBy w6 v.ownBlock) : OutA K w6 v' (n + 1) (hs ++ [.slice A l C', .slice B m D, .bool dd]) (ds ++ [d]) := by
  subst hdd
  have hl := h.own.1
  refine ⟨o6, by rw [List.length_append, h.len]; rfl, fun i e he => ?_⟩
  rcases Nat.lt_or_ge i ds.length with q | q
  · rw [List.getElem?_append_left q] at he
    obtain ⟨A0, l0, C0, B0, m0, D0, q0, q1, q2, q3⟩ := h.each i e he
    have := h.len
    exact ⟨A0, l0, C0, B0, m0, D0, by rw [List.getElem?_append_left (by omega)]; exact q0, by rw [List.getElem?_append_left (by omega)]; exact q1, by rw [List.getElem?_append_left (by omega)]; exact q2, q3.grownOwn hg h.own⟩
  · rw [List.getElem?_append_right q] at he
    have hi : i = ds.length := by have := (List.getElem?_eq_some_iff.1 he).1; simp at this; omega
    subst hi
    simp at he
    subst he
    have := h.len
    refine ⟨A, l, C', B, m, D, ?_, ?_, ?_, hN.grownOwn hg h.own⟩
    · rw [List.getElem?_append_right (by omega), show ds.length * 3 - hs.length = 0 by omega]; rfl
    · rw [List.getElem?_append_right (by omega), show ds.length * 3 + 1 - hs.length = 1 by omega]; rfl
    · rw [List.getElem?_append_right (by omega), show ds.length * 3 + 2 - hs.length = 2 by omega]; rfl
theorem OutA.slab {K : Nat} {w : World} {v : Value} {n : Nat} {hs : List Value} {ds : List Dev} (h : OutA K w v n hs ds) (hm : n ≤ 9223372036854775807) : ∃ a C, v = .slice a n C ∧ DSlab w a n hs ds := by
  obtain ⟨A, C', rfl, _, ro, _⟩ := own_form h.own
  refine ⟨A, C', rfl, ro, hm, by rw [h.len]; exact h.own.1, fun i d hd => ?_⟩
  obtain ⟨A0, n0, C0, B0, m0, D0, p0, p1, p2, pN⟩ := h.each i d hd
  exact ⟨A0, n0, C0, B0, m0, D0, p0, p1, p2, pN.devV⟩

set_option maxRecDepth 100000 in
set_option maxHeartbeats 4000000 in
theorem reftwins_calls (a : Option Addr) (n c : Nat) (hs : List Value) (ds : List Dev) (w : World) (h : DSlab w a n hs ds) (hn : n ≤ 30) (hG : ∀ d ∈ ds, ¬ GreatD d) :
    Calls Try.prog 51 #[.slice a n c] w fun e w' => ∃ a' C' hs', e = .returned (.slice a' n C') ∧ DSlab w' a' n hs' ds ∧ Below w.heap.size w w' := by
  have hl := Lib.hid h.len
  have H := Lib.hid h
  have HG := Lib.hid hG
  obtain ⟨i0, hi0, hz0, hz1, hz2⟩ := info_parts disk_info
  clear h hG
  go_enter Try.func51, Try.ntmps51
  go_wp2
  go_loopw [3, 4] (fun s i wr => ∃ (k : Nat) (v : Value) (hs' : List Value), k ≤ n ∧ i = .int .i64 k ∧ s = v ∧ OutA w.heap.size wr v k hs' (ds.take k) ∧ Below w.heap.size w wr) (fun _ i _ => n - (intOf i).toNat)
  case atStart => exact ⟨0, _, [], by omega, rfl, rfl, OutA.nil _ _, Below.refl _ _⟩
  case round =>
    obtain ⟨k, v, hs', hk, rfl, rfl, hO, hB⟩ := hrel
    by_cases hkn : k < n
    · obtain ⟨b, off, A, l, C, B, m, D, d, rfl, hd, hlt, q0, q1, q2, hv⟩ := H.out.at hkn
      have hkn1 : (k : Int) < (n : Int) := by omega
      have c0 := (hB.cell (p := ⟨b, off + k * 3, none⟩) hlt).trans q0
      have c1 := (hB.cell (p := ⟨b, off + k * 3 + 1, none⟩) hlt).trans q1
      have c2 := (hB.cell (p := ⟨b, off + k * 3 + 2, none⟩) hlt).trans q2
      have hGd := HG.out d (List.mem_of_getElem? hd)
      obtain ⟨s1, s2, s3, s4⟩ := not_great hGd
      have sd := small_of hGd
      have cc := fun W (hW : Below w.heap.size w W) => reftwin_calls _ d W (hv.below hW (Nat.le_refl _)) s1 s2 sd.1 sd.2
      have E := Lib.hid (take_snocL hd)
      have HO := Lib.hid hO
      clear hv q0 q1 q2 s1 s2 s3 s4 sd hGd hd hO
      generalize hdd : d.dead = dd at *
      go_wp2_with fail
      (with_reducible refine (cc _ hB).mono ?_)
      rintro e w5 ⟨v5, rfl, hN, hb5⟩
      obtain ⟨A2, l2, C2, B2, m2, D2, rfl, -⟩ := hN.form4 hdd
      have hBa := (hB.trans (hb5.mono hB.size)).alloc (hB.trans (hb5.mono hB.size)).size (.cells #[.slice A2 l2 C2, .slice B2 m2 D2, .bool dd] 25)
      have ha : Below w5.heap.size w5 (w5.alloc (.cells #[.slice A2 l2 C2, .slice B2 m2 D2, .bool dd] 25)) := (Below.refl _ _).alloc (Nat.le_refl _) _
      have hOa := (HO.out.below hb5).below ha
      have hNa := Lib.hid ((hN.mono hB.size).below ha)
      clear cc hN hb5 c0 c1 c2
      go_wp2_with (at_builtin; refine wpList_append_lies _ (by rfl) _ _ _ (by rfl) w.heap.size 25 i0 _ 3 56 Try.underlying58 hi0 hz0 hz1 hz2 rfl (by omega) _ k hs' (by rfl) hOa.own ⟨w5.heap.size, 0, none⟩ 1 1 [.slice A2 l2 C2, .slice B2 m2 D2, .bool dd] (by rfl) (by rfl) (World.news_of_block (cs := #[.slice A2 l2 C2, .slice B2 m2 D2, .bool dd]) (t := 25) (fr := (0, 0)) (heap_alloc_new w5 _)) (by simp [Value.oneCell']) (by omega) (by simp only [maxLen]; omega) (by omega) hBa.size (w5.heap.size + 1) (by simp) ?_)
      intro gg cap w6 hown6 hgrow6 hat6 hlt6
      have hP := Lib.hid (show OutA w.heap.size w6 (.slice (some ⟨gg, 0, none⟩) (k + 1) cap) (k + 1) (hs' ++ [.slice A2 l2 C2, .slice B2 m2 D2, .bool dd]) (ds.take (k + 1)) by
        rw [E.out]
        exact hOa.push hdd hNa.out hown6 hgrow6)
      have hB6 := Lib.hid (below_own hBa hgrow6 rfl (fun q hq => (own_lt hOa.own hq).2) hBa.size)
      clear hOa hNa hown6 hgrow6 hat6 hlt6 hBa ha
      go_wp2
      go_roundw
      case rel => exact ⟨k + 1, _, _, by omega, by go_num, rfl, hP.out, hB6.out⟩
      case measure => simp [intOf]; omega
    · obtain rfl : n = k := by omega
      obtain ⟨a', C', rfl, hS⟩ := hO.slab (by omega)
      rw [List.take_of_length_le (by have := hl.out; omega)] at hS
      have HS := Lib.hid hS
      clear hO hS
      go_wp2
      go_ret
      exact ⟨a', C', hs', rfl, HS.out, hB⟩

set_option maxRecDepth 100000 in
set_option maxHeartbeats 4000000 in
theorem refmayl_calls (a : Option Addr) (n c : Nat) (hs : List Value) (ds : List Dev) (w : World) (h : DSlab w a n hs ds) :
    Calls Try.prog 92 #[.slice a n c] w fun e w' => e = .returned (.bool (decide (MayL ds))) ∧ Below w.heap.size w w' := by
  have hl := Lib.hid h.len
  have hm := h.max
  have H := Lib.hid h
  clear h
  go_enter Try.func92, Try.ntmps92
  go_wp2
  go_loopw [3] (fun i wr => ∃ k : Nat, k ≤ n ∧ i = .int .i64 k ∧ Hid (∀ d ∈ ds.take k, MayD d) ∧ Below w.heap.size w wr) (fun i _ => n - (intOf i).toNat)
  case atStart => exact ⟨0, by omega, rfl, Lib.hid (by simp), Below.refl _ _⟩
  case round =>
    obtain ⟨k, hk, rfl, hP, hB⟩ := hrel
    by_cases hkn : k < n
    · obtain ⟨b, off, A, l, C, B, m, D, d, rfl, hd, hlt, q0, q1, q2, hv⟩ := H.out.at hkn
      have hkn1 : (k : Int) < (n : Int) := by omega
      have c0 := (hB.cell (p := ⟨b, off + k * 3, none⟩) hlt).trans q0
      have c1 := (hB.cell (p := ⟨b, off + k * 3 + 1, none⟩) hlt).trans q1
      have c2 := (hB.cell (p := ⟨b, off + k * 3 + 2, none⟩) hlt).trans q2
      have cc := fun W (hW : Below w.heap.size w W) => refmay_calls _ d W (hv.below hW (Nat.le_refl _))
      by_cases hM : MayD d
      · rw [decide_eq_true hM] at cc
        have hP' := Lib.hid (show ∀ x ∈ ds.take (k + 1), MayD x by
          intro x hx
          rw [take_snocL hd] at hx
          rcases List.mem_append.1 hx with p | p
          · exact hP.out x p
          · rw [List.mem_singleton.1 p]; exact hM)
        clear hd hv hM hP q0 q1 q2
        generalize d.dead = dd at *
        go_wp2_with fail
        (with_reducible refine (cc _ hB).mono ?_)
        rintro e w2 ⟨rfl, hb2⟩
        have hB2 := hB.trans (hb2.mono hB.size)
        clear cc hb2 c0 c1 c2
        go_wp2
        go_roundw
        case rel => exact ⟨k + 1, by omega, by go_num, hP', hB2⟩
        case measure => simp [intOf]; omega
      · rw [decide_eq_false hM] at cc
        have E2 := Lib.hid (show decide (MayL ds) = false from decide_eq_false (fun p => hM (p.2.2 d (List.mem_of_getElem? hd))))
        clear hd hv hM hP q0 q1 q2
        generalize d.dead = dd at *
        go_wp2_with fail
        (with_reducible refine (cc _ hB).mono ?_)
        rintro e w2 ⟨rfl, hb2⟩
        have hB2 := hB.trans (hb2.mono hB.size)
        clear cc hb2 c0 c1 c2
        go_wp2
        go_ret
        rw [E2.out]
        exact ⟨rfl, hB2⟩
    · obtain rfl : n = k := by omega
      have hPa := Lib.hid (show ∀ d ∈ ds, MayD d from fun d hd => hP.out d (by rw [List.take_of_length_le (by have := hl.out; omega)]; exact hd))
      clear hP
      by_cases h1 : 1 ≤ n
      · have d1 : decide ((1 : Int) ≤ (n : Int)) = true := decide_eq_true (by omega)
        by_cases h2 : n ≤ 17
        · have d2 : decide ((n : Int) ≤ 17) = true := decide_eq_true (by omega)
          have E2 := Lib.hid (show decide (MayL ds) = true from decide_eq_true ⟨by have := hl.out; omega, by have := hl.out; omega, hPa.out⟩)
          go_wp2
          go_ret
          rw [E2.out]
          exact ⟨rfl, hB⟩
        · have d2 : decide ((n : Int) ≤ 17) = false := decide_eq_false (by omega)
          have E2 := Lib.hid (show decide (MayL ds) = false from decide_eq_false (fun p => by have := p.2.1; have := hl.out; omega))
          go_wp2
          go_ret
          rw [E2.out]
          exact ⟨rfl, hB⟩
      · have d1 : decide ((1 : Int) ≤ (n : Int)) = false := decide_eq_false (by omega)
        have E2 := Lib.hid (show decide (MayL ds) = false from decide_eq_false (fun p => by have := p.1; have := hl.out; omega))
        go_wp2
        go_ret
        rw [E2.out]
        exact ⟨rfl, hB⟩

set_option maxRecDepth 100000 in
set_option maxHeartbeats 4000000 in
theorem refmany_calls (a : Option Addr) (n c : Nat) (hs : List Value) (ds : List Dev) (w : World) (h : DSlab w a n hs ds) (hM : MayL ds) :
    Calls Try.prog 96 #[.slice a n c] w fun e w' => e = .returned (.int .i64 (manyL ds : Nat)) ∧ Below w.heap.size w w' := by
  have hl := Lib.hid h.len
  have hm := h.max
  have H := Lib.hid h
  have HM := Lib.hid hM
  clear h hM
  go_enter Try.func96, Try.ntmps96
  go_wp2
  go_loopw [3, 4] (fun s i wr => ∃ k : Nat, k ≤ n ∧ i = .int .i64 k ∧ s = .int .i64 (manyL (ds.take k) : Nat) ∧ Below w.heap.size w wr) (fun _ i _ => n - (intOf i).toNat)
  case atStart => exact ⟨0, by omega, rfl, rfl, Below.refl _ _⟩
  case round =>
    obtain ⟨k, hk, rfl, rfl, hB⟩ := hrel
    by_cases hkn : k < n
    · obtain ⟨b, off, A, l, C, B, m, D, d, rfl, hd, hlt, q0, q1, q2, hv⟩ := H.out.at hkn
      have hkn1 : (k : Int) < (n : Int) := by omega
      have c1 := (hB.cell (p := ⟨b, off + k * 3 + 1, none⟩) hlt).trans q1
      have hw := (dev_wait hv).1
      have hle : manyL (ds.take (k + 1)) ≤ 1024 * 17 := by
        have t1 := manyL_le (l := ds.take (k + 1)) fun x hx => (HM.out.2.2 x (List.mem_of_mem_take hx)).2.2.1
        have t2 : (ds.take (k + 1)).length ≤ 17 := by rw [List.length_take]; have := HM.out.2.1; omega
        omega
      have E := Lib.hid (show manyL (ds.take (k + 1)) = manyL (ds.take k) + m by rw [take_snocL hd, manyL_snoc, hw])
      have hle2 : manyL (ds.take k) + m ≤ 17408 := by have := E.out; omega
      clear hd hv q0 q1 q2 hw hle
      generalize manyL (ds.take k) = s at *
      go_wp2
      go_roundw
      case rel => exact ⟨k + 1, by omega, by go_num, by rw [E.out]; go_num, hB⟩
      case measure => simp [intOf]; omega
    · obtain rfl : n = k := by omega
      have E := Lib.hid (show ds.take n = ds from List.take_of_length_le (by have := hl.out; omega))
      go_wp2
      go_ret
      rw [E.out]
      exact ⟨rfl, hB⟩
set_option maxRecDepth 100000 in
set_option maxHeartbeats 4000000 in
theorem refwaits_calls (a : Option Addr) (n c : Nat) (hs : List Value) (ds : List Dev) (w : World) (h : DSlab w a n hs ds) :
    Calls Try.prog 60 #[.slice a n c] w fun e w' => e = .returned (.tuple #[.int .i64 ((if MayL ds then manyL ds else 0 : Nat) : Int), .int .i64 (chkL ds)]) ∧ Below w.heap.size w w' := by
  have cc := refmayl_calls a n c hs ds w h
  by_cases hM : MayL ds
  · rw [if_pos hM, show chkL ds = 0 from if_pos hM]
    rw [decide_eq_true hM] at cc
    have cm := fun W (hW : Below w.heap.size w W) => refmany_calls a n c hs ds W (h.below hW (Nat.le_refl _)) hM
    clear h hM
    go_enter Try.func60, Try.ntmps60
    go_wp2_with fail
    (with_reducible refine cc.mono ?_)
    rintro e w2 ⟨rfl, hb2⟩
    clear cc
    go_wp2_with fail
    (with_reducible refine (cm _ hb2).mono ?_)
    rintro e w3 ⟨rfl, hb3⟩
    clear cm
    go_wp2
    go_ret2
    exact ⟨rfl, hb2.trans (hb3.mono hb2.size)⟩
  · rw [if_neg hM, show chkL ds = 8 from if_neg hM]
    rw [decide_eq_false hM] at cc
    clear h hM
    go_enter Try.func60, Try.ntmps60
    go_wp2_with fail
    (with_reducible refine cc.mono ?_)
    rintro e w2 ⟨rfl, hb2⟩
    clear cc
    go_wp2
    go_ret2
    exact ⟨rfl, hb2⟩
end Go.Proofs.Ytldgpkaecfgagaa
