/- freeboardlaw05.ActsParts: for every input the law answers true, and what is handed in reads as it did. Conditions: none. -/
import Derived.Test.YtldgpkaecfgagaaActOpen
import Derived.Test.YtldgpkaecfgagaaActJ
import Derived.Test.YtldgpkaecfgagaaRefEA
namespace Go.Proofs.Ytldgpkaecfgagaa
open Go.ChangeShapes Go.WideShapes Go.ChangeAt Go.RowKit PolyM PackM FoldM DevM
/-- The acts from place k on. -/
def fromAct (a : Option Addr) (c k : Nat) : Option Addr := if c = k then a else a.map (·.add (k * 4))
theorem act_from (A : Option Addr) (n c k : Nat) (h : k ≤ n) (W : World) : (Instr.slice 62 (.slice A n c) (some (.int .i64 (k : Int))) none none).run Try.prog W = .ok (.slice (fromAct A c k) (n - k) (c - k)) W := by
  rw [run_slice_l (P := Try.prog) (w := W) 62 A n c (by kernel_rfl) .i64 (k : Int) (by omega) (by omega)]
  have hs : (sizeOf (Try.prog.elem 62)).run Try.prog W = .ok 4 W := by kernel_rfl
  rw [hs]
  simp [Result.andThen, sliced, fromAct]
theorem ASlab.from {w : World} {a : Option Addr} {n c k : Nat} {hs : List Value} {ls : List Act5} (h : ASlab w a n hs ls) (hk : k ≤ n) (hc : n ≤ c) : ASlab w (fromAct a c k) (n - k) (hs.drop (k * 4)) (ls.drop k) := by
  have hl := h.len
  have h1 := h.row.1
  refine ⟨⟨by rw [List.length_drop, h1]; omega, ?_⟩, by have := h.max; omega, by rw [List.length_drop, List.length_drop]; omega, fun i x hx => ?_⟩
  · by_cases h0 : n - k = 0
    · exact .inl h0
    · rcases h.row.2 with q | ⟨b, off, rfl, hlt, hcell⟩
      · omega
      · refine .inr ⟨b, off + k * 4, ?_, hlt, fun i v hv => ?_⟩
        · unfold fromAct
          rw [if_neg (by omega)]
          show some (Addr.add _ (k * 4)) = _
          rw [add_plain']
        · rw [List.getElem?_drop] at hv
          rw [Nat.add_assoc]
          exact hcell _ v hv
  · rw [List.getElem?_drop] at hx
    obtain ⟨A, L, C, q0, q1, q2, q3, q4⟩ := h.each.2 (k + i) x hx
    refine ⟨A, L, C, ?_, ?_, ?_, ?_, q4⟩
    · rw [List.getElem?_drop, show k * 4 + i * 4 = (k + i) * 4 by omega]; exact q0
    · rw [List.getElem?_drop, show k * 4 + (i * 4 + 1) = (k + i) * 4 + 1 by omega]; exact q1
    · rw [List.getElem?_drop, show k * 4 + (i * 4 + 2) = (k + i) * 4 + 2 by omega]; exact q2
    · rw [List.getElem?_drop, show k * 4 + (i * 4 + 3) = (k + i) * 4 + 3 by omega]; exact q3

theorem chkA_zero {ls : List Act5} {ds : List Dev} (h : chkA ls ds = 0) : MayL ds ∧ ls.length ≤ 1024 ∧ ∀ x ∈ ls, MayA ds x := by
  rcases chkA_cases ls ds with q | q | q | q
  · rw [q.2.2] at h; omega
  · rw [q.2.2.2] at h; omega
  · exact ⟨q.1, by omega, q.2.2.2.1⟩
  · rw [q.2.2.2.2] at h; omega
theorem chkA_ok {ls : List Act5} {ds : List Dev} (h : MayL ds) (hl : ls.length ≤ 1024) (hA : ∀ x ∈ ls, MayA ds x) : chkA ls ds = 0 := by
  unfold chkA
  rw [if_neg (fun q => q h), if_neg (by omega), if_pos hA]
theorem behind_fit {ds : List Dev} (l : List Act5) : ∀ {cur res : List Dev}, Fit ds cur → (∀ x ∈ l, MayA ds x) → behind cur l = (0, res) → Fit ds res := by
  induction l with
  | nil =>
    intro cur res hF _ h
    simp only [behind, Prod.mk.injEq, true_and] at h
    rw [← h]; exact hF
  | cons x l ih =>
    intro cur res hF hA h
    simp only [behind] at h
    by_cases q : stepE cur x = 0
    · rw [if_pos q] at h
      exact ih (hF.step (hA x List.mem_cons_self) q) (fun y hy => hA y (List.mem_cons_of_mem _ hy)) h
    · rw [if_neg q] at h
      exact absurd (congrArg Prod.fst h) q
theorem behind_split {ds : List Dev} (l r : List Act5) : ∀ {res : List Dev}, behind ds (l ++ r) = (0, res) → ∃ mid, behind ds l = (0, mid) ∧ behind mid r = (0, res) := by
  induction l generalizing ds with
  | nil => intro res h; exact ⟨ds, rfl, h⟩
  | cons x l ih =>
    intro res h
    simp only [List.cons_append, behind] at h ⊢
    by_cases q : stepE ds x = 0
    · rw [if_pos q] at h ⊢
      exact ih h
    · rw [if_neg q] at h
      exact absurd (congrArg Prod.fst h) q
theorem run_zero {ds : List Dev} {ls : List Act5} {k : Nat} (h : runE ds ls k = 0) : chkA ls ds = 0 ∧ k ≤ ls.length ∧ behind ds (ls.take k) = (0, runL ds ls k) := by
  unfold runE at h
  unfold runL
  by_cases h1 : chkA ls ds = 0
  · rw [if_neg (fun q => q h1)] at h ⊢
    by_cases h2 : (k : Int) < 0 ∨ (ls.length : Int) < k
    · rw [if_pos h2] at h; omega
    · rw [if_neg h2] at h ⊢
      have e : ((k : Int)).toNat = k := rfl
      rw [e] at h ⊢
      exact ⟨h1, by omega, by rw [← h]⟩
  · rw [if_pos h1] at h
    exact absurd h h1
theorem run_ok {ds res : List Dev} {ls : List Act5} {k : Nat} (h : chkA ls ds = 0) (hk : k ≤ ls.length) (hb : behind ds (ls.take k) = (0, res)) : runE ds ls k = 0 ∧ runL ds ls k = res := by
  unfold runE runL
  rw [if_neg (fun q => q h), if_neg (by omega), if_neg (fun q => q h), if_neg (by omega)]
  rw [show ((k : Int)).toNat = k from rfl, hb]
  exact ⟨rfl, rfl⟩
theorem parts {ds : List Dev} {ls : List Act5} {k : Nat} (h : runE ds ls ls.length = 0) (hk : k ≤ ls.length) : ∃ mid, runE ds (ls.take k) k = 0 ∧ runL ds (ls.take k) k = mid ∧ runE ds ls (0 : Nat) = 0 ∧ runL ds ls (0 : Nat) = ds ∧ runE mid (ls.drop k) ((ls.length - k : Nat) : Int) = 0 ∧ runL mid (ls.drop k) ((ls.length - k : Nat) : Int) = runL ds ls ls.length ∧ runE ds ls k = 0 ∧ runL ds ls k = mid ∧ (∀ d ∈ mid, SmallD d) ∧ (∀ d ∈ runL ds ls ls.length, SmallD d) ∧ ∀ d ∈ ds, SmallD d := by
  obtain ⟨h1, _, h2⟩ := run_zero h
  rw [List.take_length] at h2
  obtain ⟨hM, hl, hA⟩ := chkA_zero h1
  have h3 := h2
  rw [← List.take_append_drop k ls] at h3
  obtain ⟨mid, b1, b2⟩ := behind_split _ _ h3
  have F1 := behind_fit _ (Fit.refl hM) (fun x hx => hA x (List.mem_of_mem_take hx)) b1
  have F2 := behind_fit _ (Fit.refl hM) hA h2
  have r1 := run_ok (ls := ls.take k) (k := k) (chkA_ok hM (by rw [List.length_take]; omega) fun x hx => hA x (List.mem_of_mem_take hx)) (by rw [List.length_take]; omega) (by rw [List.take_take, Nat.min_self]; exact b1)
  have r2 := run_ok (k := 0) h1 (by omega) (res := ds) rfl
  have r3 := run_ok (ds := mid) (ls := ls.drop k) (k := ls.length - k) (chkA_ok (F1.mayL hM) (by rw [List.length_drop]; omega) fun x hx => (F1.mayA x).2 (hA x (List.mem_of_mem_drop hx))) (by rw [List.length_drop]; omega) (by rw [List.take_of_length_le (by rw [List.length_drop]; omega)]; exact b2)
  have r4 := run_ok (k := k) h1 hk b1
  rw [← List.take_append_drop k ls] at r3
  refine ⟨mid, r1.1, r1.2, r2.1, r2.2, ?_, ?_, r4.1, r4.2, fun d hd => may_smallD (F1.may d hd), fun d hd => may_smallD (F2.may d ?_), fun d hd => may_smallD (hM.2.2 d hd)⟩
  · rw [List.take_append_drop] at r3; exact r3.1
  · rw [List.take_append_drop] at r3; rw [r3.2, List.take_append_drop]
  · exact hd
theorem DevsN.zero {K : Nat} {w : World} {v : Value} (h : DevsN K w v []) : ∃ a C hs, v = .slice a 0 C ∧ DSlab w a 0 hs [] := by
  obtain ⟨a, n, C, hs, rfl, hS⟩ := h.slab
  have := hS.len
  simp only [List.length_nil] at this
  subst this
  exact ⟨a, C, hs, rfl, hS⟩
theorem runL_err {ds : List Dev} {ls : List Act5} {k : Int} (h : runE ds ls k ≠ 0) : runL ds ls k = [] := by
  have hb : ∀ (l : List Act5) (ds : List Dev), (behind ds l).1 ≠ 0 → (behind ds l).2 = [] := by
    intro l
    induction l with
    | nil => intro ds h; exact absurd rfl h
    | cons x l ih =>
      intro ds h
      simp only [behind] at h ⊢
      by_cases q : stepE ds x = 0
      · rw [if_pos q] at h ⊢; exact ih _ h
      · rw [if_neg q]
  unfold runE at h
  unfold runL
  by_cases h1 : chkA ls ds ≠ 0
  · rw [if_pos h1]
  · rw [if_neg h1] at h ⊢
    by_cases h2 : k < 0 ∨ (ls.length : Int) < k
    · rw [if_pos h2]
    · rw [if_neg h2] at h ⊢
      exact hb _ _ h

set_option maxHeartbeats 8000000 in
set_option maxRecDepth 100000 in
theorem actsParts_walk (w : World) (a : Option Addr) (n c : Nat) (hs : List Value) (ds : List Dev) (hv : DSlab w a n hs ds) (_hc : n ≤ c) (a0 : Option Addr) (n0 c0 : Nat) (hs0 : List Value) (ls : List Act5) (hu : ASlab w a0 n0 hs0 ls) (hc0 : n0 ≤ c0) (k : Int) (_wk : (Lit.int .i64 k).wf = true) :
    Calls Try.prog 12 #[.slice a n c, .slice a0 n0 c0, .int .i64 k] w fun e w' => e = .returned (.bool true) ∧ Below w.heap.size w w' := by
  have hl0 := Lib.hid hu.len
  have hm0 := hu.max
  go_enter Try.func12, Try.ntmps12
  have hB := Below.refl w.heap.size w
  go_wp2_with fail
  (with_reducible refine (alive5_calls _).mono ?_)
  rintro e w1 ⟨rfl, hb⟩
  replace hv := hv.below hb (Nat.le_refl _)
  replace hu := hu.below hb (Nat.le_refl _)
  replace hB := hB.trans (hb.mono hB.size)
  clear hb
  go_wp2_with fail
  (with_reducible refine (great5_calls _ _ _ _ _ _ hv).mono ?_)
  rintro e w2 ⟨⟨r, rfl, hR⟩, hb⟩
  replace hv := hv.below hb (Nat.le_refl _)
  replace hu := hu.below hb (Nat.le_refl _)
  replace hB := hB.trans (hb.mono hB.size)
  clear hb
  rcases r with _ | _
  case true =>
    go_wp2
    go_ret
    exact ⟨rfl, hB⟩
  go_wp2_with fail
  (with_reducible refine (long5_calls _ _ _ _ _ _ hu).mono ?_)
  rintro e w3 ⟨⟨r2, rfl, hR2⟩, hb⟩
  replace hv := hv.below hb (Nat.le_refl _)
  replace hu := hu.below hb (Nat.le_refl _)
  replace hB := hB.trans (hb.mono hB.size)
  clear hb
  rcases r2 with _ | _
  case true =>
    go_wp2
    go_ret
    exact ⟨rfl, hB⟩
  clear hR hR2
  by_cases hk0 : k < 0
  · have d1 : decide (k < 0) = true := decide_eq_true hk0
    go_wp2
    go_ret
    exact ⟨rfl, hB⟩
  have d1 : decide (k < 0) = false := decide_eq_false hk0
  by_cases hk1 : (n0 : Int) < k
  · have d2 : decide ((n0 : Int) < k) = true := decide_eq_true hk1
    go_wp2
    go_ret
    exact ⟨rfl, hB⟩
  obtain ⟨k, rfl⟩ : ∃ q : Nat, k = q := ⟨k.toNat, by omega⟩
  have hkn : k ≤ n0 := by omega
  have d2 : decide ((n0 : Int) < (k : Int)) = false := decide_eq_false hk1
  have d3 : decide (n0 < k) = false := decide_eq_false (by omega)
  have ht1 := act_to a0 n0 c0 k (by omega)
  have ht2 := act_from a0 n0 c0 k hkn
  have rA := fun W a n c hs (h : DSlab W a n hs ds) a0 n0 c0 hs0 (g : ASlab W a0 n0 hs0 ls) (hc : n0 ≤ c0) (k : Int) => run_calls a n c hs ds a0 n0 c0 hs0 ls k W h g hc
  have rT := fun W a n c hs (h : DSlab W a n hs ds) hs0 (g : ASlab W a0 k hs0 (ls.take k)) => run_calls a n c hs ds a0 k c0 hs0 (ls.take k) (k : Int) W h g (by omega)
  have e0 : ls.length = n0 := hl0.out
  by_cases hE : runE ds ls (n0 : Int) = 0
  · have hE' := hE
    rw [← e0] at hE'
    obtain ⟨mid, p1, p2, p3, p4, p5, p6, p7, p8, p9, p10, p11⟩ := parts hE' (by omega : k ≤ ls.length)
    rw [e0] at p5 p6 p10
    have rN := rA
    have R1 := fun W a n c hs (h : DSlab W a n hs ds) hs0 (g : ASlab W a0 n0 hs0 ls) => rA W a n c hs h a0 n0 c0 hs0 g hc0 (n0 : Int)
    have R2 := fun W a n c hs (h : DSlab W a n hs ds) hs0 (g : ASlab W a0 n0 hs0 ls) => rA W a n c hs h a0 n0 c0 hs0 g hc0 ((0 : Nat) : Int)
    have R3 := fun W a n c hs (h : DSlab W a n hs ds) hs0 (g : ASlab W a0 n0 hs0 ls) => rA W a n c hs h a0 n0 c0 hs0 g hc0 (k : Int)
    have R4 := fun W a n c hs (h : DSlab W a n hs mid) hs0 (g : ASlab W (fromAct a0 c0 k) (n0 - k) hs0 (ls.drop k)) => run_calls a n c hs mid (fromAct a0 c0 k) (n0 - k) (c0 - k) hs0 (ls.drop k) ((n0 - k : Nat) : Int) W h g (by omega)
    rw [hE] at R1
    rw [p3, p4] at R2
    rw [p7, p8] at R3
    rw [p5, p6] at R4
    rw [p1, p2] at rT
    have S1 := Lib.hid (SameL.refl p9)
    have S2 := Lib.hid (SameL.refl p10)
    have S3 := Lib.hid (SameL.refl p11)
    have hu1 := hu.take hkn
    have hu2 := hu.from hkn hc0
    have ez : ((0 : Nat) : Int) = 0 := rfl
    rw [ez] at R2
    have ek : ((n0 : Int) - (k : Int)) = ((n0 - k : Nat) : Int) := by omega
    generalize hq : n0 - k = nk at *
    clear rA rN p1 p2 p3 p4 p5 p6 p7 p8 p9 p10 p11 hE hE' e0 hq
    generalize runL ds ls (n0 : Int) = al at *
    go_wp2_with fail
    (with_reducible refine (R1 _ _ _ _ _ hv _ hu).mono ?_)
    rintro e w4 ⟨v1, rfl, hD1, hb⟩
    obtain ⟨a1, n1, C1, hs1, rfl, hS1⟩ := hD1.slab
    clear hD1
    replace hv := hv.below hb (Nat.le_refl _)
    replace hu := hu.below hb (Nat.le_refl _)
    replace hu1 := hu1.below hb (Nat.le_refl _)
    replace hu2 := hu2.below hb (Nat.le_refl _)
    replace hB := hB.trans (hb.mono hB.size)
    clear hb
    go_wp2_with fail
    (with_reducible refine (rT _ _ _ _ _ hv _ hu1).mono ?_)
    rintro e w5 ⟨v2, rfl, hD2, hb⟩
    obtain ⟨a2, n2, C2, hs2, rfl, hS2⟩ := hD2.slab
    clear hD2
    replace hv := hv.below hb (Nat.le_refl _)
    replace hu := hu.below hb (Nat.le_refl _)
    replace hu2 := hu2.below hb (Nat.le_refl _)
    replace hS1 := hS1.below hb (Nat.le_refl _)
    replace hB := hB.trans (hb.mono hB.size)
    clear hb
    go_wp2_with fail
    (with_reducible refine (R2 _ _ _ _ _ hv _ hu).mono ?_)
    rintro e w6 ⟨v3, rfl, hD3, hb⟩
    obtain ⟨a3, n3, C3, hs3, rfl, hS3⟩ := hD3.slab
    clear hD3
    replace hv := hv.below hb (Nat.le_refl _)
    replace hu := hu.below hb (Nat.le_refl _)
    replace hu2 := hu2.below hb (Nat.le_refl _)
    replace hS1 := hS1.below hb (Nat.le_refl _)
    replace hS2 := hS2.below hb (Nat.le_refl _)
    replace hB := hB.trans (hb.mono hB.size)
    clear hb
    go_wp2_with fail
    (with_reducible refine (R4 _ _ _ _ _ hS2 _ hu2).mono ?_)
    rintro e w7 ⟨v4, rfl, hD4, hb⟩
    obtain ⟨a4, n4, C4, hs4, rfl, hS4⟩ := hD4.slab
    clear hD4
    replace hv := hv.below hb (Nat.le_refl _)
    replace hu := hu.below hb (Nat.le_refl _)
    replace hS1 := hS1.below hb (Nat.le_refl _)
    replace hS2 := hS2.below hb (Nat.le_refl _)
    replace hS3 := hS3.below hb (Nat.le_refl _)
    replace hB := hB.trans (hb.mono hB.size)
    clear hb
    go_wp2_with fail
    (with_reducible refine (R3 _ _ _ _ _ hv _ hu).mono ?_)
    rintro e w8 ⟨v5, rfl, hD5, hb⟩
    obtain ⟨a5, n5, C5, hs5, rfl, hS5⟩ := hD5.slab
    clear hD5
    replace hv := hv.below hb (Nat.le_refl _)
    replace hS1 := hS1.below hb (Nat.le_refl _)
    replace hS2 := hS2.below hb (Nat.le_refl _)
    replace hS3 := hS3.below hb (Nat.le_refl _)
    replace hS4 := hS4.below hb (Nat.le_refl _)
    replace hB := hB.trans (hb.mono hB.size)
    clear hb
    go_wp2_with fail
    (with_reducible refine (samedisks_calls _ _ _ _ _ _ _ _ _ _ _ hS1 hS4 S2.out).mono ?_)
    rintro e w9 ⟨rfl, hb⟩
    replace hv := hv.below hb (Nat.le_refl _)
    replace hS2 := hS2.below hb (Nat.le_refl _)
    replace hS3 := hS3.below hb (Nat.le_refl _)
    replace hS5 := hS5.below hb (Nat.le_refl _)
    replace hB := hB.trans (hb.mono hB.size)
    clear hb
    go_wp2_with fail
    (with_reducible refine (samedisks_calls _ _ _ _ _ _ _ _ _ _ _ hS2 hS5 S1.out).mono ?_)
    rintro e w10 ⟨rfl, hb⟩
    replace hv := hv.below hb (Nat.le_refl _)
    replace hS3 := hS3.below hb (Nat.le_refl _)
    replace hB := hB.trans (hb.mono hB.size)
    clear hb
    go_wp2_with fail
    (with_reducible refine (samedisks_calls _ _ _ _ _ _ _ _ _ _ _ hS3 hv S3.out).mono ?_)
    rintro e w11 ⟨rfl, hb⟩
    replace hB := hB.trans (hb.mono hB.size)
    clear hb
    go_wp2
    go_ret
    exact ⟨rfl, hB⟩
  · have R1 := fun W a n c hs (h : DSlab W a n hs ds) hs0 (g : ASlab W a0 n0 hs0 ls) => rA W a n c hs h a0 n0 c0 hs0 g hc0 (n0 : Int)
    have R2 := fun W a n c hs (h : DSlab W a n hs ds) hs0 (g : ASlab W a0 n0 hs0 ls) => rA W a n c hs h a0 n0 c0 hs0 g hc0 0
    have hL := runL_err hE
    rw [hL] at R1
    have hne := err_ne hE
    have hu1 := hu.take hkn
    clear rA hE e0
    generalize runE ds ls (n0 : Int) = er at *
    generalize runE ds ls 0 = er2 at *
    generalize runL ds ls 0 = li2 at *
    generalize runE ds (ls.take k) (k : Int) = er3 at *
    generalize runL ds (ls.take k) (k : Int) = li3 at *
    go_wp2_with fail
    (with_reducible refine (R1 _ _ _ _ _ hv _ hu).mono ?_)
    rintro e w13 ⟨v1, rfl, hD1, hb⟩
    obtain ⟨a1, C1, hs1, rfl, hS1⟩ := hD1.zero
    clear hD1 hS1
    replace hv := hv.below hb (Nat.le_refl _)
    replace hu := hu.below hb (Nat.le_refl _)
    replace hu1 := hu1.below hb (Nat.le_refl _)
    replace hB := hB.trans (hb.mono hB.size)
    clear hb
    go_wp2_with fail
    (with_reducible refine (rT _ _ _ _ _ hv _ hu1).mono ?_)
    rintro e w14 ⟨v2, rfl, hD2, hb⟩
    clear hD2
    replace hv := hv.below hb (Nat.le_refl _)
    replace hu := hu.below hb (Nat.le_refl _)
    replace hB := hB.trans (hb.mono hB.size)
    clear hb
    go_wp2_with fail
    (with_reducible refine (R2 _ _ _ _ _ hv _ hu).mono ?_)
    rintro e w15 ⟨v3, rfl, hD3, hb⟩
    clear hD3
    replace hB := hB.trans (hb.mono hB.size)
    clear hb
    go_wp2
    go_ret
    exact ⟨rfl, hB⟩

namespace actsParts
set_option linter.unusedVariables false
set_option maxRecDepth 100000 in
theorem lifted (os : Os) (started : os.Started) (H : Type) (enc : TypeId × Value → H) :
    ReturnsInHanded {} Try.checked os 12 .any (Rows.actsPartsSpec.pre6 enc Try.prog Try.f12 Rows.actsPartsRow.domain false) (Rows.actsPartsSpec.post enc Try.prog Try.f12 false true false false) := by
  refine returnsInHanded_of_change (C := Try.checked) Try.own started (by kernel_rfl) Try.func12
    (ChangeSpec.witness6 (enc := enc) (C := Try.checked) false ⟨#[], #[.slice none 0 0, .slice none 0 0, .int .i64 0], []⟩ 8 (by kernel_rfl) (by kernel_rfl) (by kernel_rfl) (by kernel_rfl)) ?_
  intro W base args ds gs before hval0 hW hcnd _
  have hval : ∀ (j : Nat) t v, Try.f12.params[j]? = some t → args[j]? = some v → Value.okWide Try.prog W .any base t v := hval0
  have hW' := hW
  obtain ⟨p, q, hA0, hV, rfl, hfz, hnd⟩ := hW
  have hA : DataW.TrodAll enc Try.prog W 0 (fun _ => true) true Try.f12.params.toList args.toList ds p := hA0
  rw [Try.params12] at hA hval
  obtain ⟨v0, vs0, d0, ds0, p0, q0, hargs, rfl, rfl, h0, r0⟩ := trodAll_cons hA
  obtain ⟨v1, vs1, d1, ds1, p1, q1, rfl, rfl, rfl, h1, r1⟩ := trodAll_cons r0
  obtain ⟨v2, vs2, d2, ds2, p2, q2, rfl, rfl, rfl, h2, r2⟩ := trodAll_cons r1
  obtain ⟨rfl, rfl, rfl⟩ := trodAll_nil r2
  obtain rfl : args = #[v0, v1, v2] := by cases args; simp_all
  obtain ⟨rfl, rfl⟩ := trodVars_none hV
  obtain ⟨a0, len0, cap0, rfl⟩ := okWide_slice Try.underlying58 (hval 0 58 v0 rfl rfl)
  have k0 := h0
  have lt0 : ∀ x ∈ p0, x.block < W.heap.size := by obtain ⟨m, hm⟩ := k0; exact DataW.trod_lt m _ _ _ hm
  obtain ⟨s0, z0, w0, c0⟩ := dslab_in h0
  obtain ⟨a1, len1, cap1, rfl⟩ := okWide_slice Try.underlying62 (hval 1 62 v1 rfl rfl)
  have k1 := h1
  have lt1 : ∀ x ∈ p1, x.block < W.heap.size := by obtain ⟨m, hm⟩ := k1; exact DataW.trod_lt m _ _ _ hm
  obtain ⟨s1, z1, w1, c1⟩ := aslab_in h1
  obtain ⟨a2, rfl, rfl, rfl, w2⟩ := open_int Try.underlying3 (hval 2 3 v2 rfl rfl) h2
  clear hA0 hval0
  refine (actsParts_walk W a0 len0 cap0 s0 z0 w0 c0 a1 len1 cap1 s1 z1 w1 c1 a2 w2).mono fun e W' ⟨he, bel⟩ => ?_
  subst he
  exact ⟨_, rfl, _, _, _, [], _, [], hW', trodAll_mk1 (shut_bool Try.underlying4 _), (trodAll_cons_mk (Below.trod Try.laidOut (by kernel_rfl) (of_decide_eq_true (by kernel_rfl)) k0 bel lt0) (trodAll_cons_mk (Below.trod Try.laidOut (by kernel_rfl) (of_decide_eq_true (by kernel_rfl)) k1 bel lt1) (trodAll_cons_mk (shut_int Try.underlying3 w2) trodAll_mk0))), rfl, bel.frame _, fun h => by cases h⟩

theorem holds : Rows.ActsPartsSaid :=
  OpenClaim.holds_of_wide 12 Try.f12 rfl rfl rfl rfl rfl rfl rfl ⟨rfl, rfl, rfl, rfl, rfl⟩ rfl rfl rfl rfl rfl (by kernel_rfl) Try.func12 (by kernel_rfl)
    (of_decide_eq_true (by kernel_rfl)) (by unfold Func.isWrapper; first | (rw [if_pos (by decide +kernel)]; kernel_rfl) | (rw [if_neg (by decide +kernel)]; exact ⟨rfl, rfl⟩))
    (fun os started H enc _ => lifted os started H enc)
end actsParts
end Go.Proofs.Ytldgpkaecfgagaa
