/- Slices of devices and of acts: what they read as; whether devices and acts may be. -/
import Derived.Test.YtldgpkaecfgagaaDiskM
import Derived.Deep.SlicePairs
import Derived.Deep.RegionHeld3
namespace Go.Proofs.Ytldgpkaecfgagaa
open Go.RowKit PolyM PackM FoldM DevM

/-- Each three of these cells are a device. -/
def DRow (P : Value → Dev → Prop) (hs : List Value) (ds : List Dev) : Prop :=
  hs.length = ds.length * 3 ∧ ∀ (i : Nat) (d : Dev), ds[i]? = some d → ∃ (A : Option Addr) (n C : Nat) (B : Option Addr) (m D : Nat), hs[i * 3]? = some (.slice A n C) ∧ hs[i * 3 + 1]? = some (.slice B m D) ∧ hs[i * 3 + 2]? = some (.bool d.dead) ∧ P (.agg #[.slice A n C, .slice B m D, .bool d.dead]) d
structure DSlab (w : World) (a : Option Addr) (n : Nat) (hs : List Value) (ds : List Dev) : Prop where
  row : Row w 3 a n hs
  max : n ≤ 9223372036854775807
  each : DRow (DevV w) hs ds
theorem DRow.imp {P Q : Value → Dev → Prop} {hs : List Value} {ds : List Dev} (h : DRow P hs ds) (f : ∀ v d, P v d → Q v d) : DRow Q hs ds := by
  refine ⟨h.1, fun i d hd => ?_⟩
  obtain ⟨A, n, C, B, m, D, q0, q1, q2, q3⟩ := h.2 i d hd
  exact ⟨A, n, C, B, m, D, q0, q1, q2, f _ _ q3⟩
theorem DSlab.below {w w' : World} {a : Option Addr} {n B : Nat} {hs : List Value} {ds : List Dev} (h : DSlab w a n hs ds) (hb : Below B w w') (hB : w.heap.size ≤ B) : DSlab w' a n hs ds :=
  ⟨h.row.below hb hB, h.max, h.each.imp fun _ _ q => q.below hb hB⟩
theorem DSlab.len {w : World} {a : Option Addr} {n : Nat} {hs : List Value} {ds : List Dev} (h : DSlab w a n hs ds) : ds.length = n := by have := h.row.1; have := h.each.1; omega
/-- A device of the slice: its cells, as long as nothing below turns. -/
theorem DSlab.at {w : World} {a : Option Addr} {n : Nat} {hs : List Value} {ds : List Dev} (h : DSlab w a n hs ds) {i : Nat} (hi : i < n) :
    ∃ (b off : Nat) (A : Option Addr) (l C : Nat) (B : Option Addr) (m D : Nat) (d : Dev), a = some ⟨b, off, none⟩ ∧ ds[i]? = some d ∧ b < w.heap.size ∧ w.cell? ⟨b, off + i * 3, none⟩ = some (.slice A l C) ∧ w.cell? ⟨b, off + i * 3 + 1, none⟩ = some (.slice B m D) ∧ w.cell? ⟨b, off + i * 3 + 2, none⟩ = some (.bool d.dead) ∧ DevV w (.agg #[.slice A l C, .slice B m D, .bool d.dead]) d := by
  have hl := h.len
  rcases h.row.2 with h0 | ⟨b, off, e, hlt, hc⟩
  · omega
  · obtain ⟨A, l, C, B, m, D, q0, q1, q2, q3⟩ := h.each.2 i _ (List.getElem?_eq_getElem (by omega))
    exact ⟨b, off, A, l, C, B, m, D, _, e, List.getElem?_eq_getElem _, hlt, hc _ _ q0, by rw [Nat.add_assoc]; exact hc _ _ q1, by rw [Nat.add_assoc]; exact hc _ _ q2, q3⟩

/-- An act. -/
structure Act5 where
  disk : Int
  kind : Int
  at_ : Int
  data : List Int
structure ActOk (w : World) (A : Option Addr) (L : Nat) (x : Act5) : Prop where
  wd : (Lit.int .i64 x.disk).wf = true
  wk : (Lit.int .u8 x.kind).wf = true
  wa : (Lit.int .i64 x.at_).wf = true
  bytes : Ints .u8 w A L x.data
theorem ActOk.below {w w' : World} {A : Option Addr} {L B : Nat} {x : Act5} (h : ActOk w A L x) (hb : Below B w w') (hB : w.heap.size ≤ B) : ActOk w' A L x := ⟨h.wd, h.wk, h.wa, h.bytes.below hb hB⟩
def ActV (w : World) (v : Value) (x : Act5) : Prop := ∃ (A : Option Addr) (L C : Nat), v = .agg #[.int .i64 x.disk, .int .u8 x.kind, .int .i64 x.at_, .slice A L C] ∧ ActOk w A L x
def ARow (w : World) (hs : List Value) (ls : List Act5) : Prop :=
  hs.length = ls.length * 4 ∧ ∀ (i : Nat) (x : Act5), ls[i]? = some x → ∃ (A : Option Addr) (L C : Nat), hs[i * 4]? = some (.int .i64 x.disk) ∧ hs[i * 4 + 1]? = some (.int .u8 x.kind) ∧ hs[i * 4 + 2]? = some (.int .i64 x.at_) ∧ hs[i * 4 + 3]? = some (.slice A L C) ∧ ActOk w A L x
structure ASlab (w : World) (a : Option Addr) (n : Nat) (hs : List Value) (ls : List Act5) : Prop where
  row : Row w 4 a n hs
  max : n ≤ 9223372036854775807
  each : ARow w hs ls
theorem ASlab.below {w w' : World} {a : Option Addr} {n B : Nat} {hs : List Value} {ls : List Act5} (h : ASlab w a n hs ls) (hb : Below B w w') (hB : w.heap.size ≤ B) : ASlab w' a n hs ls := by
  refine ⟨h.row.below hb hB, h.max, h.each.1, fun i x hx => ?_⟩
  obtain ⟨A, L, C, q0, q1, q2, q3, q4⟩ := h.each.2 i x hx
  exact ⟨A, L, C, q0, q1, q2, q3, q4.below hb hB⟩
theorem ASlab.len {w : World} {a : Option Addr} {n : Nat} {hs : List Value} {ls : List Act5} (h : ASlab w a n hs ls) : ls.length = n := by have := h.row.1; have := h.each.1; omega
theorem ASlab.at {w : World} {a : Option Addr} {n : Nat} {hs : List Value} {ls : List Act5} (h : ASlab w a n hs ls) {i : Nat} (hi : i < n) :
    ∃ (b off : Nat) (A : Option Addr) (L C : Nat) (x : Act5), a = some ⟨b, off, none⟩ ∧ ls[i]? = some x ∧ b < w.heap.size ∧ w.cell? ⟨b, off + i * 4, none⟩ = some (.int .i64 x.disk) ∧ w.cell? ⟨b, off + i * 4 + 1, none⟩ = some (.int .u8 x.kind) ∧ w.cell? ⟨b, off + i * 4 + 2, none⟩ = some (.int .i64 x.at_) ∧ w.cell? ⟨b, off + i * 4 + 3, none⟩ = some (.slice A L C) ∧ ActOk w A L x := by
  have hl := h.len
  rcases h.row.2 with h0 | ⟨b, off, e, hlt, hc⟩
  · omega
  · obtain ⟨A, L, C, q0, q1, q2, q3, q4⟩ := h.each.2 i _ (List.getElem?_eq_getElem (by omega))
    exact ⟨b, off, A, L, C, _, e, List.getElem?_eq_getElem _, hlt, hc _ _ q0, by rw [Nat.add_assoc]; exact hc _ _ q1, by rw [Nat.add_assoc]; exact hc _ _ q2, by rw [Nat.add_assoc]; exact hc _ _ q3, q4⟩
/-- The first k of the acts. -/
theorem ASlab.take {w : World} {a : Option Addr} {n : Nat} {hs : List Value} {ls : List Act5} (h : ASlab w a n hs ls) {k : Nat} (hk : k ≤ n) : ASlab w a k (hs.take (k * 4)) (ls.take k) := by
  have hl := h.len
  have h1 := h.row.1
  refine ⟨⟨by rw [List.length_take]; omega, ?_⟩, by have := h.max; omega, by rw [List.length_take, List.length_take]; omega, fun i x hx => ?_⟩
  · rcases h.row.2 with h0 | ⟨b, off, e, hlt, hc⟩
    · exact .inl (by omega)
    · refine .inr ⟨b, off, e, hlt, fun i v hv => hc i v ?_⟩
      rw [List.getElem?_take] at hv
      split at hv
      · exact hv
      · cases hv
  · rw [List.getElem?_take] at hx
    split at hx
    · rename_i hik
      obtain ⟨A, L, C, q0, q1, q2, q3, q4⟩ := h.each.2 i x hx
      exact ⟨A, L, C, by rw [List.getElem?_take, if_pos (by omega)]; exact q0, by rw [List.getElem?_take, if_pos (by omega)]; exact q1, by rw [List.getElem?_take, if_pos (by omega)]; exact q2, by rw [List.getElem?_take, if_pos (by omega)]; exact q3, q4⟩
    · cases hx

/-- Devices may be. -/
def MayL (ds : List Dev) : Prop := 1 ≤ ds.length ∧ ds.length ≤ 17 ∧ ∀ d ∈ ds, MayD d
instance (ds : List Dev) : Decidable (MayL ds) := inferInstanceAs (Decidable (_ ∧ _))
def chkL (ds : List Dev) : Int := if MayL ds then 0 else 8
/-- An act may be done to one of them. -/
def MayA (ds : List Dev) (x : Act5) : Prop :=
  0 ≤ x.disk ∧ x.disk < ds.length ∧ ((x.kind = 1 ∨ x.kind = 2) ∧ 0 ≤ x.at_ ∧ x.at_ < (ds.getD x.disk.toNat ⟨[], [], false⟩).blocks.length ∧ Blk x.data ∨ x.kind = 3 ∧ x.at_ = 0 ∧ x.data.length = 0)
instance (ds : List Dev) (x : Act5) : Decidable (MayA ds x) := inferInstanceAs (Decidable (_ ∧ _))
def chkA (ls : List Act5) (ds : List Dev) : Int := if ¬ MayL ds then 8 else if 1024 < ls.length then 4 else if ∀ x ∈ ls, MayA ds x then 0 else 2

theorem actblock_calls (a : Option Addr) (n c : Nat) (zs : List Int) (w : World) (h : Ints .u8 w a n zs) :
    Calls Try.prog 105 #[.slice a n c] w fun e w' => e = .returned (.bool (decide (Blk zs))) ∧ w' = w := by
  have hl := h.len
  have hx : (((n : Int) == 0) = true ∧ Hid (decide (Blk zs) = true)) ∨ (((n : Int) == 0) = false ∧ ((n : Int) == 128) = true ∧ Hid (decide (Blk zs) = true)) ∨ (((n : Int) == 0) = false ∧ ((n : Int) == 128) = false ∧ Hid (decide (Blk zs) = false)) := by
    by_cases h0 : n = 0
    · exact .inl ⟨by simp [h0], Lib.hid (decide_eq_true (.inl (by omega)))⟩
    · by_cases h1 : n = 128
      · exact .inr (.inl ⟨by simp; omega, by simp; omega, Lib.hid (decide_eq_true (.inr (by omega)))⟩)
      · exact .inr (.inr ⟨by simp; omega, by simp; omega, Lib.hid (decide_eq_false (by rintro (q | q) <;> omega))⟩)
  clear hl
  rcases hx with ⟨d0, E⟩ | ⟨d0, d1, E⟩ | ⟨d0, d1, E⟩
  all_goals
    rw [E.out]
    go_enter Try.func105, Try.ntmps105
    go_wp2
    go_ret
    exact ⟨rfl, rfl⟩

theorem chk_cases (d : Dev) : (chk d = 0 ∧ MayD d) ∨ (chk d = 8 ∧ ¬ MayD d) := by
  by_cases h : MayD d
  · exact .inl ⟨chk_may h, h⟩
  · exact .inr ⟨chk_not h, h⟩
set_option maxRecDepth 100000 in
set_option maxHeartbeats 4000000 in
theorem checkdisks_calls (a : Option Addr) (n c : Nat) (hs : List Value) (ds : List Dev) (w : World) (h : DSlab w a n hs ds) :
    Calls Try.prog 89 #[.slice a n c] w fun e w' => e = .returned (.int .i64 (chkL ds)) ∧ Below w.heap.size w w' := by
  have hl := Lib.hid h.len
  have hm := h.max
  by_cases h1 : n < 1
  · have d1 : decide ((n : Int) < 1) = true := decide_eq_true (by omega)
    rw [show chkL ds = 8 from if_neg (fun q => by have := q.1; have := hl.out; omega)]
    clear h h1
    go_enter Try.func89, Try.ntmps89
    go_wp2
    go_ret
    exact ⟨rfl, Below.refl _ _⟩
  have d1 : decide ((n : Int) < 1) = false := decide_eq_false (by omega)
  by_cases h2 : 17 < n
  · have d2 : decide ((17 : Int) < (n : Int)) = true := decide_eq_true (by omega)
    rw [show chkL ds = 8 from if_neg (fun q => by have := q.2.1; have := hl.out; omega)]
    clear h h1 h2
    go_enter Try.func89, Try.ntmps89
    go_wp2
    go_ret
    exact ⟨rfl, Below.refl _ _⟩
  have d2 : decide ((17 : Int) < (n : Int)) = false := decide_eq_false (by omega)
  have H := Lib.hid h
  have hn1 := Lib.hid (And.intro h1 h2)
  clear h h1 h2
  go_enter Try.func89, Try.ntmps89
  go_wp2
  go_loopw [16] (fun i wr => ∃ k : Nat, k ≤ n ∧ i = .int .i64 k ∧ Hid (∀ d ∈ ds.take k, MayD d) ∧ Below w.heap.size w wr) (fun i _ => n - (intOf i).toNat)
  case atStart => exact ⟨0, by omega, rfl, Lib.hid (by simp), Below.refl _ _⟩
  case round =>
    obtain ⟨k, hk, rfl, hP, hB⟩ := hrel
    by_cases hkn : k < n
    · obtain ⟨b, off, A, l, C, B, m, D, d, rfl, hd, hlt, q0, q1, q2, hv⟩ := H.out.at hkn
      have hkn1 : (k : Int) < (n : Int) := by omega
      have c0 := (hB.cell (p := ⟨b, off + k * 3, none⟩) hlt).trans q0
      have c1 := (hB.cell (p := ⟨b, off + k * 3 + 1, none⟩) hlt).trans q1
      have c2 := (hB.cell (p := ⟨b, off + k * 3 + 2, none⟩) hlt).trans q2
      have cc := fun W (hW : Below w.heap.size w W) => check_calls _ d W (hv.below hW (Nat.le_refl _))
      have hBa := hB.alloc hB.size (.cells #[.slice A l C, .slice B m D, .bool d.dead] 25)
      rcases chk_cases d with ⟨E, hM⟩ | ⟨E, hM⟩
      · rw [E] at cc
        have hP' := Lib.hid (show ∀ x ∈ ds.take (k + 1), MayD x by
          intro x hx
          rw [take_snocL hd] at hx
          rcases List.mem_append.1 hx with p | p
          · exact hP.out x p
          · rw [List.mem_singleton.1 p]; exact hM)
        clear hd hv hM E hP q0 q1 q2
        go_wp2_with fail
        (with_reducible refine (cc _ hBa).mono ?_)
        rintro e w2 ⟨rfl, hb2⟩
        have hB2 := hBa.trans (hb2.mono hBa.size)
        clear cc hb2 hBa c0 c1 c2
        go_wp2
        go_roundw
        case rel => exact ⟨k + 1, by omega, by go_num, hP', hB2⟩
        case measure => simp [intOf]; omega
      · rw [E] at cc
        have E2 := Lib.hid (show chkL ds = 8 from if_neg (fun p => hM (p.2.2 d (List.mem_of_getElem? hd))))
        clear hd hv hM E hP q0 q1 q2
        go_wp2_with fail
        (with_reducible refine (cc _ hBa).mono ?_)
        rintro e w2 ⟨rfl, hb2⟩
        have hB2 := hBa.trans (hb2.mono hBa.size)
        clear cc hb2 hBa c0 c1 c2
        go_wp2
        go_ret
        rw [E2.out]
        exact ⟨rfl, hB2⟩
    · obtain rfl : n = k := by omega
      have E2 := Lib.hid (show chkL ds = 0 from if_pos ⟨by have := hl.out; have := hn1.out; omega, by have := hl.out; have := hn1.out; omega, fun d hd => hP.out d (by rw [List.take_of_length_le (by have := hl.out; omega)]; exact hd)⟩)
      clear hP
      go_wp2
      go_ret
      rw [E2.out]
      exact ⟨rfl, hB⟩

theorem act_eq {k : Int} (q : Nat) (h : k = q) : (k == (q : Int)) = true := by simp [h]
/-- A box that holds an act. -/
def BoxA (t : TypeId) (w : World) (b : Nat) (x : Act5) (y : Value) : Prop := w.heap[b]? = some (.cells #[.int .i64 x.disk, .int .u8 x.kind, .int .i64 x.at_, y] t (0, 0))
theorem BoxA.new (t : TypeId) (w : World) (x : Act5) (y : Value) : BoxA t (w.alloc (.cells #[.int .i64 x.disk, .int .u8 x.kind, .int .i64 x.at_, y] t)) w.heap.size x y := heap_alloc_new _ _
theorem BoxA.below {t : TypeId} {w w' : World} {b : Nat} {x : Act5} {y : Value} (h : BoxA t w b x y) (hb : Below w.heap.size w w') : BoxA t w' b x y := by
  have := heap_lt h
  unfold BoxA at *
  rw [hb.block _ this]; exact h
theorem BoxA.c0 {t : TypeId} {w : World} {b : Nat} {x : Act5} {y : Value} (h : BoxA t w b x y) : w.cell? ⟨b, 0, none⟩ = some (.int .i64 x.disk) := cell_of_row _ _ _ _ _ _ h
theorem BoxA.c1 {t : TypeId} {w : World} {b : Nat} {x : Act5} {y : Value} (h : BoxA t w b x y) : w.cell? ⟨b, 1, none⟩ = some (.int .u8 x.kind) := cell_of_row _ _ _ _ _ _ h
theorem BoxA.c2 {t : TypeId} {w : World} {b : Nat} {x : Act5} {y : Value} (h : BoxA t w b x y) : w.cell? ⟨b, 2, none⟩ = some (.int .i64 x.at_) := cell_of_row _ _ _ _ _ _ h
theorem BoxA.c3 {t : TypeId} {w : World} {b : Nat} {x : Act5} {y : Value} (h : BoxA t w b x y) : w.cell? ⟨b, 3, none⟩ = some y := cell_of_row _ _ _ _ _ _ h
end Go.Proofs.Ytldgpkaecfgagaa
