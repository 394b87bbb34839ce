/- Acts one behind the other, as lists; the walk of package acts's Run. -/
import Derived.Test.YtldgpkaecfgagaaActB
import Derived.Test.YtldgpkaecfgagaaActE
import Derived.Deep.DeepCutAuto
namespace Go.Proofs.Ytldgpkaecfgagaa
open Go.RowKit PolyM PackM FoldM DevM

def atL (ds : List Dev) (k : Nat) : Dev := ds.getD k ⟨[], [], false⟩
def stepL (ds : List Dev) (x : Act5) : List Dev := ds.set x.disk.toNat (doD x (atL ds x.disk.toNat))
def stepE (ds : List Dev) (x : Act5) : Int := doE x (atL ds x.disk.toNat)
/-- The first error, or the devices behind these acts. -/
def behind (ds : List Dev) : List Act5 → Int × List Dev
  | [] => (0, ds)
  | x :: l => if stepE ds x = 0 then behind (stepL ds x) l else (stepE ds x, [])
theorem behind_app (l r : List Act5) : ∀ ds cur, behind ds l = (0, cur) → behind ds (l ++ r) = behind cur r := by
  induction l with
  | nil => intro ds cur h; simp only [behind, Prod.mk.injEq, true_and] at h; rw [h]; rfl
  | cons x l ih =>
    intro ds cur h
    simp only [behind, List.cons_append] at h ⊢
    by_cases q : stepE ds x = 0
    · rw [if_pos q] at h ⊢
      exact ih _ _ h
    · rw [if_neg q] at h
      exact absurd (congrArg Prod.fst h) q
theorem behind_yes {ds cur : List Dev} {l : List Act5} {x : Act5} (h : behind ds l = (0, cur)) (hE : stepE cur x = 0) : behind ds (l ++ [x]) = (0, stepL cur x) := by
  rw [behind_app l [x] ds cur h]
  simp only [behind, if_pos hE]
theorem behind_no {ds cur : List Dev} {l r : List Act5} {x : Act5} (h : behind ds l = (0, cur)) (hE : stepE cur x ≠ 0) : behind ds (l ++ x :: r) = (stepE cur x, []) := by
  rw [behind_app l (x :: r) ds cur h]
  simp only [behind, if_neg hE]
/-- Devices as they may be behind acts on ds. -/
structure Fit (ds cur : List Dev) : Prop where
  len : cur.length = ds.length
  blk : ∀ i, (atL cur i).blocks.length = (atL ds i).blocks.length
  may : ∀ d ∈ cur, MayD d
theorem Fit.refl {ds : List Dev} (h : MayL ds) : Fit ds ds := ⟨rfl, fun _ => rfl, h.2.2⟩
theorem Fit.mayL {ds cur : List Dev} (h : Fit ds cur) (hM : MayL ds) : MayL cur := ⟨by rw [h.len]; exact hM.1, by rw [h.len]; exact hM.2.1, h.may⟩
theorem Fit.mayA {ds cur : List Dev} (h : Fit ds cur) (x : Act5) : MayA cur x ↔ MayA ds x := by
  have := h.blk x.disk.toNat
  unfold atL at this
  unfold MayA
  rw [h.len, this]
theorem do_may {x : Act5} {d : Dev} (hd : MayD d) (hE : doE x d = 0) : MayD (doD x d) ∧ (doD x d).blocks.length = d.blocks.length := by
  unfold doE at hE
  unfold doD
  by_cases h : d.dead = true
  · rw [if_pos h]; exact ⟨hd, rfl⟩
  · rw [if_neg h] at hE ⊢
    unfold deedE at hE
    unfold deedD
    by_cases h1 : x.kind = 1
    · rw [if_pos h1] at hE ⊢
      exact ⟨write_may hE, rfl⟩
    · rw [if_neg h1] at hE ⊢
      by_cases h2 : x.kind = 2
      · rw [if_pos h2] at hE ⊢
        exact ⟨fua_may hE, List.length_set⟩
      · rw [if_neg h2] at hE ⊢
        obtain ⟨q1, q2⟩ := flushE_zero hE
        exact ⟨flush_may q1 q2, flushL_len _ _⟩
theorem Fit.step {ds cur : List Dev} (h : Fit ds cur) {x : Act5} (hA : MayA ds x) (hE : stepE cur x = 0) : Fit ds (stepL cur x) := by
  have hl := h.len
  obtain ⟨a1, a2, _⟩ := hA
  have hlt : x.disk.toNat < cur.length := by omega
  have hm : atL cur x.disk.toNat ∈ cur := by unfold atL; rw [List.getD_eq_getElem?_getD, List.getElem?_eq_getElem hlt]; exact List.getElem_mem _
  obtain ⟨q1, q2⟩ := do_may (h.may _ hm) hE
  refine ⟨by unfold stepL; rw [List.length_set]; exact hl, fun i => ?_, fun d hd => ?_⟩
  · rw [← h.blk i]
    unfold stepL atL
    rw [List.getD_eq_getElem?_getD, List.getD_eq_getElem?_getD, List.getElem?_set]
    by_cases e : x.disk.toNat = i
    · rw [if_pos e, if_pos hlt, ← e]
      simp only [Option.getD_some]
      rw [← List.getD_eq_getElem?_getD]
      exact q2
    · rw [if_neg e, ← List.getD_eq_getElem?_getD]
  · rcases List.mem_or_eq_of_mem_set hd with p | p
    · exact h.may d p
    · rw [p]; exact q1

/-- Devices that are answered: none, or a slice of the call's own. -/
def DevsN (K : Nat) (w : World) (v : Value) (ds : List Dev) : Prop :=
  (ds = [] ∧ v = .slice none 0 0) ∨ ∃ g n C hs, v = .slice (some ⟨g, 0, none⟩) n C ∧ OutK n K w g n C hs ds ∧ ds.length = n ∧ n ≤ 17
def ListIs (w : World) (er : Int) (ds : List Dev) (e : Ending) (w' : World) : Prop :=
  ∃ v, e = .returned (.tuple #[v, .int .i64 er]) ∧ DevsN w.heap.size w' v ds ∧ Below w.heap.size w w'
theorem ListIs.none {w w' : World} (er : Int) (hb : Below w.heap.size w w') : ListIs w er [] (.returned (.tuple #[.slice none 0 0, .int .i64 er])) w' := ⟨_, rfl, .inl ⟨rfl, rfl⟩, hb⟩
theorem OutK.mono {k K K' : Nat} {w : World} {g n C : Nat} {hs : List Value} {ds : List Dev} (h : OutK k K w g n C hs ds) (hK : K' ≤ K) : OutK k K' w g n C hs ds := by
  refine ⟨own_mono h.own hK, fun i d hi hd => ?_, h.sep, h.nob⟩
  obtain ⟨A, l, C', B, m, D, q0, q1, q2, q3⟩ := h.each i d hi hd
  exact ⟨A, l, C', B, m, D, q0, q1, q2, q3.mono hK⟩
theorem DevsN.slab {K : Nat} {w : World} {v : Value} {ds : List Dev} (h : DevsN K w v ds) : ∃ a n C hs, v = .slice a n C ∧ DSlab w a n hs ds := by
  rcases h with ⟨rfl, rfl⟩ | ⟨g, n, C, hs, rfl, hO, hl, hn⟩
  · exact ⟨none, 0, 0, [], rfl, ⟨⟨rfl, .inl rfl⟩, by omega, ⟨rfl, fun i d h => by simp at h⟩⟩⟩
  · exact ⟨_, n, C, hs, rfl, hO.slab hl (by omega)⟩

/-- What Run answers. -/
def runE (ds : List Dev) (ls : List Act5) (k : Int) : Int := if chkA ls ds ≠ 0 then chkA ls ds else if k < 0 ∨ (ls.length : Int) < k then 2 else (behind ds (ls.take k.toNat)).1
def runL (ds : List Dev) (ls : List Act5) (k : Int) : List Dev := if chkA ls ds ≠ 0 then [] else if k < 0 ∨ (ls.length : Int) < k then [] else (behind ds (ls.take k.toNat)).2
theorem act_to (A : Option Addr) (n c N : Nat) (h : N ≤ c) (W : World) : (Instr.slice 62 (.slice A n c) none (some (.int .i64 (N : Int))) none).run Try.prog W = .ok (.slice A N c) W := by
  rw [run_slice_h (P := Try.prog) (w := W) 62 A n c (by kernel_rfl) .i64 (N : Int) (by omega) (by omega)]
  have hs : (sizeOf (Try.prog.elem 62)).run Try.prog W = .ok 4 W := by kernel_rfl
  rw [hs]
  cases A <;> simp [Result.andThen, sliced, Addr.add]

theorem BoxD.newAt {w W : World} (e : W.heap = (w.alloc (.cells #[.slice none 0 0, .slice none 0 0, .bool false] 25)).heap) : BoxD W w.heap.size (.slice none 0 0) (.slice none 0 0) (.bool false) := by
  unfold BoxD
  rw [e]; exact BoxD.new w _ _ _
theorem BoxD.newAt2 {w W W' : World} (hb : Below W.heap.size W W') (e : W.heap = (w.alloc (.cells #[.slice none 0 0, .slice none 0 0, .bool false] 25)).heap) : BoxD W' w.heap.size (.slice none 0 0) (.slice none 0 0) (.bool false) := (BoxD.newAt e).below hb
/-- do's answer, taken apart. -/
theorem do_calls2 (x : Act5) (A' : Option Addr) (L C' : Nat) (A : Option Addr) (n C : Nat) (B : Option Addr) (m D : Nat) (d : Dev) (w : World) (hok : ActOk w A' L x) (h : DevV w (.agg #[.slice A n C, .slice B m D, .bool d.dead]) d) (hk : x.kind = 1 ∨ x.kind = 2 ∨ x.kind = 3) :
    Calls Try.prog 86 #[.agg #[.int .i64 x.disk, .int .u8 x.kind, .int .i64 x.at_, .slice A' L C'], .agg #[.slice A n C, .slice B m D, .bool d.dead]] w fun e w' => ∃ A2 n2 C2 B2 m2 D2 dd, e = .returned (.tuple #[.agg #[.slice A2 n2 C2, .slice B2 m2 D2, .bool dd], .int .i64 (doE x d)]) ∧
      Below w.heap.size w w' ∧ ((d.dead = true ∧ A2 = A ∧ n2 = n ∧ C2 = C ∧ B2 = B ∧ m2 = m ∧ D2 = D ∧ dd = d.dead) ∨ (d.dead = false ∧ DevN w.heap.size w' (.agg #[.slice A2 n2 C2, .slice B2 m2 D2, .bool dd]) (resD (deedE x d) (deedD x d)))) := by
  refine (do_calls x A' L C' _ d w hok h hk).mono fun e w' q => ?_
  rcases q with ⟨hd, rfl, hb⟩ | ⟨hd, v, rfl, hN, hb⟩
  · have : doE x d = 0 := if_pos hd
    rw [this]
    exact ⟨A, n, C, B, m, D, d.dead, rfl, hb, .inl ⟨hd, rfl, rfl, rfl, rfl, rfl, rfl, rfl⟩⟩
  · have : doE x d = deedE x d := if_neg (by rw [hd]; simp)
    obtain ⟨A2, n2, C2, B2, m2, D2, rfl, -, -⟩ := hN.form
    rw [this]
    exact ⟨A2, n2, C2, B2, m2, D2, _, rfl, hb, .inr ⟨hd, hN⟩⟩

set_option maxRecDepth 100000 in
set_option maxHeartbeats 8000000 in
theorem run_calls (a : Option Addr) (n c : Nat) (hs : List Value) (ds : List Dev) (a0 : Option Addr) (n0 c0 : Nat) (hs0 : List Value) (ls : List Act5) (k : Int) (w : World) (h : DSlab w a n hs ds) (g : ASlab w a0 n0 hs0 ls) (hc : n0 ≤ c0) :
    Calls Try.prog 42 #[.slice a n c, .slice a0 n0 c0, .int .i64 k] w (ListIs w (runE ds ls k) (runL ds ls k)) := by
  have cc := actcheck_calls a0 n0 c0 hs0 ls a n c hs ds w g h
  have hl := Lib.hid g.len
  have hm := g.max
  by_cases hE : chkA ls ds = 0
  · rw [hE] at cc
    by_cases hk : k < 0 ∨ (ls.length : Int) < k
    · rw [show runE ds ls k = 2 from (if_neg (fun q => q hE)).trans (if_pos hk), show runL ds ls k = [] from (if_neg (fun q => q hE)).trans (if_pos hk)]
      have hx : decide (k < 0) = true ∨ (decide (k < 0) = false ∧ decide ((n0 : Int) < k) = true) := by
        by_cases q : k < 0
        · exact .inl (decide_eq_true q)
        · exact .inr ⟨decide_eq_false q, decide_eq_true (by have := hl.out; omega)⟩
      clear hk h g hE
      rcases hx with d1 | ⟨d1, d2⟩
      all_goals
        go_enter Try.func42, Try.ntmps42
        go_wp2_with fail
        (with_reducible refine cc.mono ?_)
        rintro e w2 ⟨rfl, hb2⟩
        go_wp2
        go_ret2
        exact ListIs.none _ hb2
    · obtain ⟨k, rfl⟩ : ∃ q : Nat, k = q := ⟨k.toNat, by omega⟩
      have hk0 : k ≤ n0 := by have := hl.out; omega
      rw [show runE ds ls (k : Int) = (behind ds (ls.take k)).1 from (if_neg (fun q => q hE)).trans (if_neg hk), show runL ds ls (k : Int) = (behind ds (ls.take k)).2 from (if_neg (fun q => q hE)).trans (if_neg hk)]
      have d1 : decide ((k : Int) < 0) = false := decide_eq_false (by omega)
      have d2 : decide ((n0 : Int) < (k : Int)) = false := decide_eq_false (by omega)
      have hX : MayL ds ∧ ∀ x ∈ ls, MayA ds x := by
        rcases chkA_cases ls ds with q | q | q | q
        · rw [q.2.2] at hE; omega
        · rw [q.2.2.2] at hE; omega
        · exact ⟨q.1, q.2.2.2.1⟩
        · rw [q.2.2.2.2] at hE; omega
      have HX := Lib.hid hX
      have ht := fun W (hW : Below w.heap.size w W) => twins_calls a n c hs ds W (h.below hW (Nat.le_refl _)) hX.1
      have hsl := act_to a0 n0 c0 k (by omega)
      have G := Lib.hid g
      have hl2 := Lib.hid h.len
      have hn17 : n ≤ 17 := by have := h.len; have := hX.1.2.1; omega
      clear hk h g hE hX
      go_enter Try.func42, Try.ntmps42
      go_wp2_with fail
      (with_reducible refine cc.mono ?_)
      rintro e w2 ⟨rfl, hb2⟩
      clear cc
      go_wp2_with fail
      (with_reducible refine (ht _ hb2).mono ?_)
      rintro e w3 ⟨hs3, rfl, hO3, hb3⟩
      have hI3 := Lib.hid (And.intro hO3 (hb2.trans (hb3.mono hb2.size)))
      have hz2 := hb2.size
      clear ht hO3 hb3
      go_wp2
      clear hsl
      go_loopw [34] (fun i wr => ∃ (j : Nat) (hs' : List Value) (cur : List Dev), j ≤ k ∧ i = .int .i64 j ∧ Hid (behind ds (ls.take j) = (0, cur) ∧ Fit ds cur) ∧ OutK n w2.heap.size wr w2.heap.size n n hs' cur ∧ Below w.heap.size w wr) (fun i _ => k - (intOf i).toNat)
      case atStart => exact ⟨0, hs3, ds, by omega, rfl, Lib.hid ⟨rfl, Fit.refl HX.out.1⟩, hI3.out.1, hI3.out.2⟩
      case round =>
        obtain ⟨j, hs', cur, hj, rfl, hCur, hO, hB⟩ := hrel
        clear hI3
        by_cases hjk : j < k
        · obtain ⟨b0, off0, A', L, C', x, rfl, hx, hlt0, q0, q1, q2, q3, hok⟩ := G.out.at (i := j) (by omega)
          have hA := HX.out.2 x (List.mem_of_getElem? hx)
          have hkind : x.kind = 1 ∨ x.kind = 2 ∨ x.kind = 3 := by
            rcases hA.2.2 with p | p
            · rcases p.1 with r | r
              · exact .inl r
              · exact .inr (.inl r)
            · exact .inr (.inr p.1)
          have hjk1 : (j : Int) < (k : Int) := by omega
          obtain ⟨dk, hdk⟩ : ∃ q : Nat, x.disk = q := ⟨x.disk.toNat, by have := hA.1; omega⟩
          have hdn : dk < n := by have := hA.2.1; have := hl2.out; omega
          have hdn1 : (dk : Int) < (n : Int) := by omega
          have hcl : cur.length = n := by have := hCur.out.2.len; have := hl2.out; omega
          obtain ⟨A, l, C, B, m, D, r0, r1, r2, hN⟩ := hO.each dk (atL cur dk) hdn (by unfold atL; rw [List.getD_eq_getElem?_getD, List.getElem?_eq_getElem (by omega)]; rfl)
          have e0 := (hB.cell (p := ⟨b0, off0 + j * 4, none⟩) hlt0).trans q0
          have e1 := (hB.cell (p := ⟨b0, off0 + j * 4 + 1, none⟩) hlt0).trans q1
          have e2 := (hB.cell (p := ⟨b0, off0 + j * 4 + 2, none⟩) hlt0).trans q2
          have e3 := (hB.cell (p := ⟨b0, off0 + j * 4 + 3, none⟩) hlt0).trans q3
          have hba : Below wr.heap.size wr (wr.alloc (.cells #[.int .i64 x.disk, .int .u8 x.kind, .int .i64 x.at_, .slice A' L C'] 67)) := (Below.refl _ _).alloc (Nat.le_refl _) _
          have bx := BoxA.new 67 wr x (.slice A' L C')
          have c0 := bx.c0
          have c1 := bx.c1
          have c2 := bx.c2
          have c3 := bx.c3
          have hlt4 : wr.heap.size < (wr.alloc (.cells #[.int .i64 x.disk, .int .u8 x.kind, .int .i64 x.at_, .slice A' L C'] 67)).heap.size := by simp
          have OA := Lib.hid (hO.below hba)
          have cd := fun W (hW : Below wr.heap.size wr W) => do_calls2 x A' L C' A l C B m D (atL cur dk) W (hok.below (hB.trans (hW.mono hB.size)) (Nat.le_refl _)) (hN.devV.below hW (Nat.le_refl _)) hkind
          rw [hdk] at cd c0 e0 hba OA hlt4 c1 c2 c3
          have hbr : Below w.heap.size w wr := hB
          have R3 := Lib.hid (And.intro r0 (And.intro r1 r2))
          have HXx := Lib.hid (And.intro hx hA)
          have HSE := Lib.hid (show stepE cur x = doE x (atL cur dk) ∧ stepL cur x = cur.set dk (doD x (atL cur dk)) from ⟨by unfold stepE; rw [hdk]; rfl, by unfold stepL; rw [hdk]; rfl⟩)
          have HDD := Lib.hid (show ((atL cur dk).dead = true → doD x (atL cur dk) = atL cur dk) ∧ ((atL cur dk).dead = false → doE x (atL cur dk) = 0 → doD x (atL cur dk) = resD (deedE x (atL cur dk)) (deedD x (atL cur dk)) ∧ (doD x (atL cur dk)).dead = false) from ⟨fun q => if_pos q, fun q q2 => by
            have p1 : doE x (atL cur dk) = deedE x (atL cur dk) := if_neg (by rw [q]; simp)
            have p2 : doD x (atL cur dk) = deedD x (atL cur dk) := if_neg (by rw [q]; simp)
            rw [p2, show resD (deedE x (atL cur dk)) (deedD x (atL cur dk)) = deedD x (atL cur dk) from if_pos (p1 ▸ q2)]
            refine ⟨rfl, ?_⟩
            unfold deedD
            split
            · rfl
            · split
              · rfl
              · rfl⟩)
          have HAT := Lib.hid (show cur[dk]? = some (atL cur dk) by unfold atL; rw [List.getD_eq_getElem?_getD, List.getElem?_eq_getElem (by omega)]; rfl)
          clear hx hA hok hN hO q0 q1 q2 q3 r0 r1 r2 bx hkind
          generalize doD x (atL cur dk) = nd at *
          generalize doE x (atL cur dk) = er at *
          generalize resD (deedE x (atL cur dk)) (deedD x (atL cur dk)) = rd at *
          generalize atL cur dk = od at *
          generalize x.kind = kd at *
          generalize x.at_ = at_ at *
          go_upto_region 10 with fail
          generalize wr.alloc (.cells #[.int .i64 (dk : Int), .int .u8 kd, .int .i64 at_, .slice A' L C'] 67) = w4 at *
          have g0 := (own_cell OA.out.own R3.out.1).1
          have g1 := (own_cell OA.out.own R3.out.2.1).1
          have g2 := (own_cell OA.out.own R3.out.2.2).1
          have hlg := OA.out.lt.1
          have HS : Hid (∀ W, Below w4.heap.size w4 W → (Below w4.heap.size w4 W ∧ W.cell? ⟨wr.heap.size, 0, none⟩ = some (.int .i64 (dk : Int)) ∧ W.cell? ⟨wr.heap.size, 1, none⟩ = some (.int .u8 kd) ∧ W.cell? ⟨wr.heap.size, 2, none⟩ = some (.int .i64 at_) ∧ W.cell? ⟨wr.heap.size, 3, none⟩ = some (.slice A' L C') ∧ W.cell? ⟨w2.heap.size, dk * 3, none⟩ = some (.slice A l C) ∧ W.cell? ⟨w2.heap.size, dk * 3 + 1, none⟩ = some (.slice B m D) ∧ W.cell? ⟨w2.heap.size, dk * 3 + 2, none⟩ = some (.bool od.dead))) := Lib.hid fun W hW => ⟨hW, (hW.cell (p := ⟨wr.heap.size, 0, none⟩) hlt4).trans c0, (hW.cell (p := ⟨wr.heap.size, 1, none⟩) hlt4).trans c1, (hW.cell (p := ⟨wr.heap.size, 2, none⟩) hlt4).trans c2, (hW.cell (p := ⟨wr.heap.size, 3, none⟩) hlt4).trans c3, (hW.cell (p := ⟨w2.heap.size, dk * 3, none⟩) hlg).trans g0, (hW.cell (p := ⟨w2.heap.size, dk * 3 + 1, none⟩) hlg).trans g1, (hW.cell (p := ⟨w2.heap.size, dk * 3 + 2, none⟩) hlg).trans g2⟩
          clear e0 e1 e2 e3
          go_cut [12, 13] (fun s12 s13 wx => ∃ (b : Nat) (A2 : Option Addr) (n2 C2 : Nat) (B2 : Option Addr) (m2 D2 : Nat) (dd2 : Bool), s12 = .pointer (some ⟨b, 0, none⟩) ∧ s13 = .int .i64 er ∧ BoxD wx b (.slice A2 n2 C2) (.slice B2 m2 D2) (.bool dd2) ∧ Below w4.heap.size w4 wx ∧ ((od.dead = true ∧ A2 = A ∧ n2 = l ∧ C2 = C ∧ B2 = B ∧ m2 = m ∧ D2 = D ∧ dd2 = od.dead) ∨ (od.dead = false ∧ DevN w4.heap.size wx (.agg #[.slice A2 n2 C2, .slice B2 m2 D2, .bool dd2]) rd)))
          case first =>
            refine wp_region_held_drew (S := (fun W => Below w4.heap.size w4 W ∧ W.cell? ⟨wr.heap.size, 0, none⟩ = some (.int .i64 (dk : Int)) ∧ W.cell? ⟨wr.heap.size, 1, none⟩ = some (.int .u8 kd) ∧ W.cell? ⟨wr.heap.size, 2, none⟩ = some (.int .i64 at_) ∧ W.cell? ⟨wr.heap.size, 3, none⟩ = some (.slice A' L C') ∧ W.cell? ⟨w2.heap.size, dk * 3, none⟩ = some (.slice A l C) ∧ W.cell? ⟨w2.heap.size, dk * 3 + 1, none⟩ = some (.slice B m D) ∧ W.cell? ⟨w2.heap.size, dk * 3 + 2, none⟩ = some (.bool od.dead))) (by kernel_rfl) ?_ (fun hHeld => ?_)
            · first | exact hHeld | exact HS.out _ (below_set3 hB9 (Nat.le_refl _)) | exact HS.out _ (hB9.alloc hB9.size _) | exact HS.out _ hB9 | exact HS.out _ (hHeld.1.alloc hHeld.1.size _) | exact HS.out _ (Below.refl _ _).drew
            refine wpAnyH_take (i := 0) (v := ?_) rfl (by kernel_rfl) (by kernel_rfl) (by kernel_rfl) (fun _ _ _ h => h) (Or.inl ⟨by rfl, ?_⟩) hHeld ?_
            rotate_left
            · (intro w hSw; (try dsimp only at hSw); go_simp; try with_reducible rfl)
            try simp only [Act.put, List.getElem_toArray, List.getElem_cons_zero, List.setIfInBounds_toArray, List.set_cons_zero, List.set_cons_succ]
            refine wpAnyH_take (i := 1) (v := ?_) rfl (by kernel_rfl) (by kernel_rfl) (by kernel_rfl) (fun _ _ _ h => h) (Or.inl ⟨by rfl, ?_⟩) hHeld ?_
            rotate_left
            · (intro w hSw; (try dsimp only at hSw); go_simp; try with_reducible rfl)
            try simp only [Act.put, List.getElem_toArray, List.getElem_cons_zero, List.getElem_cons_succ, List.setIfInBounds_toArray, List.set_cons_zero, List.set_cons_succ]
            refine wpAnyH_take (i := 2) (v := ?_) rfl (by kernel_rfl) (by kernel_rfl) (by kernel_rfl) (fun _ _ _ h => h) (Or.inl ⟨by rfl, ?_⟩) hHeld ?_
            rotate_left
            · (intro w hSw; (try dsimp only at hSw); go_simp; try with_reducible rfl)
            try simp only [Act.put, List.getElem_toArray, List.getElem_cons_zero, List.getElem_cons_succ, List.setIfInBounds_toArray, List.set_cons_zero, List.set_cons_succ]
            refine wpAnyH_take (i := 3) (v := ?_) rfl (by kernel_rfl) (by kernel_rfl) (by kernel_rfl) (fun _ _ _ h => h) (Or.inl ⟨by rfl, ?_⟩) hHeld ?_
            rotate_left
            · (intro w hSw; (try dsimp only at hSw); go_simp; try with_reducible rfl)
            try simp only [Act.put, List.getElem_toArray, List.getElem_cons_zero, List.getElem_cons_succ, List.setIfInBounds_toArray, List.set_cons_zero, List.set_cons_succ]
            refine wpAnyH_take (i := 4) (v := ?_) rfl (by kernel_rfl) (by kernel_rfl) (by kernel_rfl) (fun _ _ _ h => h) (Or.inl ⟨by rfl, ?_⟩) hHeld ?_
            rotate_left
            · (intro w hSw; (try dsimp only at hSw); go_simp; try with_reducible rfl)
            try simp only [Act.put, List.getElem_toArray, List.getElem_cons_zero, List.getElem_cons_succ, List.setIfInBounds_toArray, List.set_cons_zero, List.set_cons_succ]
            refine wpAnyH_take (i := 5) (v := ?_) rfl (by kernel_rfl) (by kernel_rfl) (by kernel_rfl) (fun _ _ _ h => h) (Or.inl ⟨by rfl, ?_⟩) hHeld ?_
            rotate_left
            · (intro w hSw; (try dsimp only at hSw); go_simp; try with_reducible rfl)
            try simp only [Act.put, List.getElem_toArray, List.getElem_cons_zero, List.getElem_cons_succ, List.setIfInBounds_toArray, List.set_cons_zero, List.set_cons_succ]
            refine wpAnyH_ready (rs := [6, 10]) (by kernel_rfl) (by simp) ?_
            refine AllReadyH.cons rfl (fun K hK => ?_) (AllReadyH.cons rfl (fun K hK => ?_) AllReadyH.nil)
            ·
              go_simp
              (with_reducible refine (cd _ (hba.trans (hHeld.1.mono hba.size))).mono ?_)
              rintro e w9 ⟨A2, n2, C2, B2, m2, D2, dd2, rfl, hb9, hV⟩
              have hB9 := hHeld.1.trans (hb9.mono hHeld.1.size)
              have HV := Lib.hid (hV.imp id fun q => And.intro q.1 (q.2.mono hHeld.1.size))
              first | (have y9 : BoxD w9 w4.heap.size (.slice none 0 0) (.slice none 0 0) (.bool false) := BoxD.newAt2 (w := w4) hb9 rfl; have f0 := y9.c0; have f1 := y9.c1; have f2 := y9.c2; have r0 := y9.fr (o := 0); have r1 := y9.fr (o := 1); have r2 := y9.fr (o := 2)) | skip
              clear hV hb9
              go_wp2_with fail
              refine hK.out _ _ ?_ (fun hHeld2 => ?_)
              · first | exact hHeld | exact HS.out _ (below_set3 hB9 (Nat.le_refl _)) | exact HS.out _ (hB9.alloc hB9.size _) | exact HS.out _ hB9 | exact HS.out _ (hHeld.1.alloc hHeld.1.size _) | exact HS.out _ (Below.refl _ _).drew
              clear hK K hHeld
              have hHeld := hHeld2
              clear hHeld2
              try simp only [Act.put, List.setIfInBounds_toArray, List.set_cons_zero, List.set_cons_succ]
              refine wpAnyH_take (i := 7) (v := ?_) rfl (by kernel_rfl) (by kernel_rfl) (by kernel_rfl) (fun _ _ _ h => h) (Or.inl ⟨by rfl, ?_⟩) hHeld ?_
              rotate_left
              · (intro w hSw; (try dsimp only at hSw); go_simp; try with_reducible rfl)
              try simp only [Act.put, List.getElem_toArray, List.getElem_cons_zero, List.getElem_cons_succ, List.setIfInBounds_toArray, List.set_cons_zero, List.set_cons_succ]
              refine wpAnyH_take (i := 8) (v := ?_) rfl (by kernel_rfl) (by kernel_rfl) (by kernel_rfl) (fun _ _ _ h => h) (Or.inl ⟨by rfl, ?_⟩) hHeld ?_
              rotate_left
              · (intro w hSw; (try dsimp only at hSw); go_simp; try with_reducible rfl)
              try simp only [Act.put, List.getElem_toArray, List.getElem_cons_zero, List.getElem_cons_succ, List.setIfInBounds_toArray, List.set_cons_zero, List.set_cons_succ]
              refine wpAnyH_take (i := 9) (v := ?_) rfl (by kernel_rfl) (by kernel_rfl) (by kernel_rfl) (fun _ _ _ h => h) (Or.inl ⟨by rfl, ?_⟩) hHeld ?_
              rotate_left
              · (intro w hSw; (try dsimp only at hSw); go_simp; try with_reducible rfl)
              try simp only [Act.put, List.getElem_toArray, List.getElem_cons_zero, List.getElem_cons_succ, List.setIfInBounds_toArray, List.set_cons_zero, List.set_cons_succ]
              refine wpAnyH_ready (rs := [10]) (by kernel_rfl) (by simp) ?_
              refine AllReadyH.cons rfl (fun K hK => ?_) AllReadyH.nil
              go_simp
              refine hK.out _ _ ?_ (fun hHeld2 => ?_)
              · first | exact hHeld | exact HS.out _ (below_set3 hB9 (Nat.le_refl _)) | exact HS.out _ (hB9.alloc hB9.size _) | exact HS.out _ hB9 | exact HS.out _ (hHeld.1.alloc hHeld.1.size _) | exact HS.out _ (Below.refl _ _).drew
              clear hK K hHeld
              have hHeld := hHeld2
              clear hHeld2
              try simp only [Act.put, List.setIfInBounds_toArray, List.set_cons_zero, List.set_cons_succ]
              refine wpAnyH_ready (rs := [11]) (by kernel_rfl) (by simp) ?_
              refine AllReadyH.cons rfl (fun K hK => ?_) AllReadyH.nil
              go_simp
              refine hK.out _ _ ?_ (fun hHeld2 => ?_)
              · first | exact hHeld | exact HS.out _ (below_set3 hB9 (Nat.le_refl _)) | exact HS.out _ (hB9.alloc hB9.size _) | exact HS.out _ hB9 | exact HS.out _ (hHeld.1.alloc hHeld.1.size _) | exact HS.out _ (Below.refl _ _).drew
              clear hK K hHeld
              have hHeld := hHeld2
              clear hHeld2
              try simp only [Act.put, List.setIfInBounds_toArray, List.set_cons_zero, List.set_cons_succ]
              refine wpAnyH_take (i := 12) (v := ?_) rfl (by kernel_rfl) (by kernel_rfl) (by kernel_rfl) (fun _ _ _ h => h) (Or.inl ⟨by rfl, ?_⟩) hHeld ?_
              rotate_left
              · (intro w hSw; (try dsimp only at hSw); go_simp; try with_reducible rfl)
              try simp only [Act.put, List.getElem_toArray, List.getElem_cons_zero, List.getElem_cons_succ, List.setIfInBounds_toArray, List.set_cons_zero, List.set_cons_succ]
              refine wpAnyH_done (by kernel_rfl) ?_ _
              clear hHeld HS cd
              go_wp2_with fail
              go_meet
              case rel => first | exact ⟨_, A2, n2, C2, B2, m2, D2, dd2, rfl, rfl, BoxD.new _ _ _ _, hB9.alloc hB9.size _, HV.out.imp id fun q => ⟨q.1, q.2.below ((Below.refl _ _).alloc (Nat.le_refl _) _)⟩⟩ | exact ⟨_, A2, n2, C2, B2, m2, D2, dd2, rfl, rfl, ((y9.s0 _).s1 _).s2 _, below_set3 hB9 (Nat.le_refl _), HV.out.imp id fun q => ⟨q.1, (q.2.setBox3 y9 _ _ _).1⟩⟩
            ·
              go_simp
              refine hK.out _ _ ?_ (fun hHeld2 => ?_)
              · first | exact hHeld | exact HS.out _ (below_set3 hB9 (Nat.le_refl _)) | exact HS.out _ (hB9.alloc hB9.size _) | exact HS.out _ hB9 | exact HS.out _ (hHeld.1.alloc hHeld.1.size _) | exact HS.out _ (Below.refl _ _).drew
              clear hK K hHeld
              have hHeld := hHeld2
              clear hHeld2
              try simp only [Act.put, List.setIfInBounds_toArray, List.set_cons_zero, List.set_cons_succ]
              refine wpAnyH_ready (rs := [6]) (by kernel_rfl) (by simp) ?_
              refine AllReadyH.cons rfl (fun K hK => ?_) AllReadyH.nil
              go_simp
              (with_reducible refine (cd _ (hba.trans (hHeld.1.mono hba.size))).mono ?_)
              rintro e w9 ⟨A2, n2, C2, B2, m2, D2, dd2, rfl, hb9, hV⟩
              have hB9 := hHeld.1.trans (hb9.mono hHeld.1.size)
              have HV := Lib.hid (hV.imp id fun q => And.intro q.1 (q.2.mono hHeld.1.size))
              first | (have y9 : BoxD w9 w4.heap.size (.slice none 0 0) (.slice none 0 0) (.bool false) := BoxD.newAt2 (w := w4) hb9 rfl; have f0 := y9.c0; have f1 := y9.c1; have f2 := y9.c2; have r0 := y9.fr (o := 0); have r1 := y9.fr (o := 1); have r2 := y9.fr (o := 2)) | skip
              clear hV hb9
              go_wp2_with fail
              refine hK.out _ _ ?_ (fun hHeld2 => ?_)
              · first | exact hHeld | exact HS.out _ (below_set3 hB9 (Nat.le_refl _)) | exact HS.out _ (hB9.alloc hB9.size _) | exact HS.out _ hB9 | exact HS.out _ (hHeld.1.alloc hHeld.1.size _) | exact HS.out _ (Below.refl _ _).drew
              clear hK K hHeld
              have hHeld := hHeld2
              clear hHeld2
              try simp only [Act.put, List.setIfInBounds_toArray, List.set_cons_zero, List.set_cons_succ]
              refine wpAnyH_take (i := 7) (v := ?_) rfl (by kernel_rfl) (by kernel_rfl) (by kernel_rfl) (fun _ _ _ h => h) (Or.inl ⟨by rfl, ?_⟩) hHeld ?_
              rotate_left
              · (intro w hSw; (try dsimp only at hSw); go_simp; try with_reducible rfl)
              try simp only [Act.put, List.getElem_toArray, List.getElem_cons_zero, List.getElem_cons_succ, List.setIfInBounds_toArray, List.set_cons_zero, List.set_cons_succ]
              refine wpAnyH_take (i := 8) (v := ?_) rfl (by kernel_rfl) (by kernel_rfl) (by kernel_rfl) (fun _ _ _ h => h) (Or.inl ⟨by rfl, ?_⟩) hHeld ?_
              rotate_left
              · (intro w hSw; (try dsimp only at hSw); go_simp; try with_reducible rfl)
              try simp only [Act.put, List.getElem_toArray, List.getElem_cons_zero, List.getElem_cons_succ, List.setIfInBounds_toArray, List.set_cons_zero, List.set_cons_succ]
              refine wpAnyH_take (i := 9) (v := ?_) rfl (by kernel_rfl) (by kernel_rfl) (by kernel_rfl) (fun _ _ _ h => h) (Or.inl ⟨by rfl, ?_⟩) hHeld ?_
              rotate_left
              · (intro w hSw; (try dsimp only at hSw); go_simp; try with_reducible rfl)
              try simp only [Act.put, List.getElem_toArray, List.getElem_cons_zero, List.getElem_cons_succ, List.setIfInBounds_toArray, List.set_cons_zero, List.set_cons_succ]
              refine wpAnyH_ready (rs := [11]) (by kernel_rfl) (by simp) ?_
              refine AllReadyH.cons rfl (fun K hK => ?_) AllReadyH.nil
              go_simp
              refine hK.out _ _ ?_ (fun hHeld2 => ?_)
              · first | exact hHeld | exact HS.out _ (below_set3 hB9 (Nat.le_refl _)) | exact HS.out _ (hB9.alloc hB9.size _) | exact HS.out _ hB9 | exact HS.out _ (hHeld.1.alloc hHeld.1.size _) | exact HS.out _ (Below.refl _ _).drew
              clear hK K hHeld
              have hHeld := hHeld2
              clear hHeld2
              try simp only [Act.put, List.setIfInBounds_toArray, List.set_cons_zero, List.set_cons_succ]
              refine wpAnyH_take (i := 12) (v := ?_) rfl (by kernel_rfl) (by kernel_rfl) (by kernel_rfl) (fun _ _ _ h => h) (Or.inl ⟨by rfl, ?_⟩) hHeld ?_
              rotate_left
              · (intro w hSw; (try dsimp only at hSw); go_simp; try with_reducible rfl)
              try simp only [Act.put, List.getElem_toArray, List.getElem_cons_zero, List.getElem_cons_succ, List.setIfInBounds_toArray, List.set_cons_zero, List.set_cons_succ]
              refine wpAnyH_done (by kernel_rfl) ?_ _
              clear hHeld HS cd
              go_wp2_with fail
              go_meet
              case rel => first | exact ⟨_, A2, n2, C2, B2, m2, D2, dd2, rfl, rfl, BoxD.new _ _ _ _, hB9.alloc hB9.size _, HV.out.imp id fun q => ⟨q.1, q.2.below ((Below.refl _ _).alloc (Nat.le_refl _) _)⟩⟩ | exact ⟨_, A2, n2, C2, B2, m2, D2, dd2, rfl, rfl, ((y9.s0 _).s1 _).s2 _, below_set3 hB9 (Nat.le_refl _), HV.out.imp id fun q => ⟨q.1, (q.2.setBox3 y9 _ _ _).1⟩⟩
          case rest =>
            obtain ⟨b, A2, n2, C2, B2, m2, D2, dd2, rfl, rfl, x12, hb4, hV⟩ := hcut
            clear HS cd g0 g1 g2
            have hBw := hbr.trans (hba.mono hbr.size)
            have hBc := hBw.trans (hb4.mono hBw.size)
            by_cases hE0 : er = 0
            · subst hE0
              have O4 := OA.out.below hb4
              obtain ⟨u0, u1, u2, y0, y1, y2, z0, z1, z2⟩ := O4.cells hdn
              have c0' := (hb4.cell (p := ⟨wr.heap.size, 0, none⟩) hlt4).trans c0
              have p0 := x12.c0
              have p1 := x12.c1
              have p2 := x12.c2
              have hK4 : w.heap.size ≤ w2.heap.size := hz2
              have hKw : w2.heap.size ≤ w4.heap.size := Nat.le_of_lt hlg
              have HP : Hid (∃ hs2, OutK n w2.heap.size (((wc.setCell ⟨w2.heap.size, dk * 3, none⟩ (.slice A2 n2 C2)).setCell ⟨w2.heap.size, dk * 3 + 1, none⟩ (.slice B2 m2 D2)).setCell ⟨w2.heap.size, dk * 3 + 2, none⟩ (.bool dd2)) w2.heap.size n n hs2 (stepL cur x)) := by
                refine Lib.hid ?_
                rw [HSE.out.2]
                rcases hV with ⟨hd, rfl, rfl, rfl, rfl, rfl, rfl, rfl⟩ | ⟨hd, hN⟩
                · rw [HDD.out.1 hd, set_same HAT.out]
                  exact ⟨hs', O4.again hdn R3.out.1 R3.out.2.1 R3.out.2.2⟩
                · obtain ⟨t1, t2⟩ := HDD.out.2 hd rfl
                  rw [← t1] at hN
                  have hdd : dd2 = nd.dead := by
                    obtain ⟨_, _, _, _, _, _, e, _, _⟩ := hN.form
                    simp only [Value.agg.injEq, Array.mk.injEq, List.cons.injEq, Value.slice.injEq, Value.bool.injEq, and_true] at e
                    exact e.2.2
                  refine OutK.put (k1 := n) (ds' := cur.set dk nd) OA.out hb4 hN hdd hdn hKw (fun i d' hi hd' => ?_) (fun i hi => ?_)
                  · rw [List.getElem?_set] at hd'
                    by_cases q : dk = i
                    · rw [if_pos q, if_pos (by omega)] at hd'
                      injection hd' with hd'
                      exact .inl ⟨q.symm, hd'.symm⟩
                    · rw [if_neg q] at hd'
                      exact .inr ⟨hi, fun e => q e.symm, hd'⟩
                  · by_cases q : i = dk
                    · exact .inl q
                    · exact .inr ⟨hi, _, List.getElem?_eq_getElem (by omega)⟩
              have HB3 := Lib.hid (below_set3 (g := w2.heap.size) (o1 := dk * 3) (o2 := dk * 3 + 1) (o3 := dk * 3 + 2) (x := .slice A2 n2 C2) (y := .slice B2 m2 D2) (z := .bool dd2) hBc hK4)
              have HC : Hid (behind ds (ls.take (j + 1)) = (0, stepL cur x) ∧ Fit ds (stepL cur x)) := by
                refine Lib.hid ?_
                rw [take_snocL HXx.out.1]
                exact ⟨behind_yes hCur.out.1 HSE.out.1, hCur.out.2.step HXx.out.2 HSE.out.1⟩
              generalize stepL cur x = nx at *
              clear hV hb4 x12 O4 hBw hBc HSE HDD HAT OA R3 HXx hCur hba hlg c0 c1 c2 c3
              go_wp2
              obtain ⟨hs2, hP2⟩ := HP.out
              have HP2 := Lib.hid hP2
              clear HP hP2 y0 y1 y2 z0 z1 z2 c0' p0 p1 p2
              go_roundw
              case rel => exact ⟨j + 1, hs2, nx, by omega, by go_num, HC, HP2.out, HB3.out⟩
              case measure => simp [intOf]; omega
            · have hne := err_ne hE0
              have HB := Lib.hid (show behind ds (ls.take k) = (er, []) by
                have hsp : ls.take k = ls.take j ++ x :: (ls.take k).drop (j + 1) := by
                  have t1 := List.take_append_drop (j + 1) (ls.take k)
                  rw [List.take_take, show min (j + 1) k = j + 1 by omega, take_snocL HXx.out.1] at t1
                  rw [List.append_assoc] at t1
                  exact t1.symm
                rw [hsp, ← HSE.out.1]
                exact behind_no hCur.out.1 (by rw [HSE.out.1]; exact hE0))
              clear hV hb4 x12 hBw HSE HDD HAT OA R3 HXx hCur hba hlg c0 c1 c2 c3 hE0
              go_wp2
              go_ret2
              rw [HB.out]
              exact ListIs.none _ hBc
        · obtain rfl : k = j := by omega
          have HB := Lib.hid hCur.out.1
          have HF := Lib.hid hCur.out.2
          have hcl : cur.length = n := by have := HF.out.len; have := hl2.out; omega
          clear hCur
          go_wp2
          go_ret2
          rw [HB.out]
          exact ⟨_, rfl, .inr ⟨_, n, n, hs', rfl, hO.mono hz2, hcl, hn17⟩, hB⟩
  · rw [show runE ds ls k = chkA ls ds from if_pos hE, show runL ds ls k = [] from if_pos hE]
    have hi : 0 ≤ chkA ls ds ∧ chkA ls ds ≤ 8 := by
      rcases chkA_cases ls ds with q | q | q | q
      · rw [q.2.2]; omega
      · rw [q.2.2.2]; omega
      · rw [q.2.2.2.2]; omega
      · rw [q.2.2.2.2]; omega
    have hne := err_ne hE
    clear h g hE
    generalize chkA ls ds = er at *
    go_enter Try.func42, Try.ntmps42
    go_wp2_with fail
    (with_reducible refine cc.mono ?_)
    rintro e w2 ⟨rfl, hb2⟩
    go_wp2
    go_ret2
    exact ListIs.none _ hb2
end Go.Proofs.Ytldgpkaecfgagaa
