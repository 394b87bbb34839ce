/- What the reference's acts make of devices is what package acts makes of them, as lists; the walks of the reference's Done, Behind, Run, Long of layer 5. -/
import Derived.Test.YtldgpkaecfgagaaRefFC
import Derived.Test.YtldgpkaecfgagaaActF
namespace Go.Proofs.Ytldgpkaecfgagaa
open Go.RowKit PolyM PackM FoldM DevM

def rdeed (x : Act5) (d : Dev) : Dev := if x.kind = 1 then refPut d x.at_ x.data else if x.kind = 2 then refSure d x.at_ x.data else refFlushed d
def rdo (x : Act5) (d : Dev) : Dev := if d.dead = true then d else rdeed x d
def rfull (x : Act5) (d : Dev) : Prop := d.dead = false ∧ x.kind = 1 ∧ d.wait.length = 1024
def rstep (ds : List Dev) (x : Act5) : List Dev := ds.set x.disk.toNat (rdo x (atL ds x.disk.toNat))
theorem blk_full {b : List Int} (h : Blk b) : Blk (fullD b) := by
  unfold fullD
  split
  · exact .inr (by simp)
  · exact h
theorem MayD.like {a b : Dev} (h : MayD a) (hs : SameD a b) (hb : ∀ x ∈ b.blocks, Blk x ∧ (b.dead = true → x.length = 0)) (hw : ∀ x ∈ b.wait, Blk x.2) : MayD b := by
  obtain ⟨h1, h2, h3, h4, h5, h6⟩ := h
  have bl : a.blocks.length = b.blocks.length := by have := congrArg List.length hs.2.1; simpa using this
  have wl : a.wait.length = b.wait.length := by have := congrArg List.length hs.2.2; simpa using this
  refine ⟨by omega, by omega, by omega, fun q => by rw [← wl]; exact h4 (by rw [hs.1]; exact q), hb, fun x hx => ?_⟩
  have hm : fullW x ∈ a.wait.map fullW := by rw [hs.2.2]; exact List.mem_map_of_mem hx
  obtain ⟨y, hy, e⟩ := List.mem_map.1 hm
  have e1 : y.1 = x.1 := by
    have t := congrArg Prod.fst e
    exact t
  obtain ⟨p1, p2, _⟩ := h6 y hy
  exact ⟨by omega, by omega, hw x hx⟩
theorem seen_blk {d : Dev} (h : MayD d) (k : Int) (h0 : k < d.blocks.length) (h1 : 0 ≤ k) : Blk (seen d k) := by
  unfold seen
  refine blk_full ?_
  have key : ∀ (l : List (Int × List Int)) (acc : List Int), Blk acc → (∀ x ∈ l, Blk x.2) → Blk (l.foldl (fun acc x => if x.1 = k then x.2 else acc) acc) := by
    intro l
    induction l with
    | nil => intro acc ha _; exact ha
    | cons x l ih =>
      intro acc ha hl
      refine ih _ ?_ fun y hy => hl y (List.mem_cons_of_mem _ hy)
      show Blk (if x.1 = k then x.2 else acc)
      split
      · exact hl x List.mem_cons_self
      · exact ha
  refine key _ _ ?_ fun x hx => (h.2.2.2.2.2 x hx).2.2
  have hl : k.toNat < d.blocks.length := by omega
  rw [List.getD_eq_getElem?_getD, List.getElem?_eq_getElem hl]
  exact (h.2.2.2.2.1 _ (List.getElem_mem hl)).1
theorem flush_map : ∀ (wa wb : List (Int × List Int)) (bl bl' : List (List Int)), wa.map fullW = wb.map fullW → bl.map fullD = bl'.map fullD → (flushL bl wa).map fullD = (flushL bl' wb).map fullD := by
  intro wa
  induction wa with
  | nil =>
    intro wb bl bl' hw hb
    cases wb with
    | nil => exact hb
    | cons y wb => simp at hw
  | cons x wa ih =>
    intro wb bl bl' hw hb
    cases wb with
    | nil => simp at hw
    | cons y wb =>
      rw [List.map_cons, List.map_cons] at hw
      injection hw with e1 e2
      have f1 : x.1 = y.1 := by
        have t := congrArg Prod.fst e1
        exact t
      have f2 : fullD x.2 = fullD y.2 := by
        have t := congrArg Prod.snd e1
        exact t
      refine ih wb (bl.set x.1.toNat x.2) (bl'.set y.1.toNat y.2) e2 ?_
      rw [List.map_set, List.map_set, hb, f1, f2]
theorem keep_map (k : Int) {wa wb : List (Int × List Int)} (h : wa.map fullW = wb.map fullW) : (wa.filter (keepB k)).map fullW = (wb.filter (keepB k)).map fullW := by
  have key : ∀ l : List (Int × List Int), (l.filter (keepB k)).map fullW = (l.map fullW).filter (keepB k) := by
    intro l
    rw [List.filter_map]
    rfl
  rw [key, key, h]
structure Rel (a b : Dev) : Prop where
  ma : MayD a
  mb : MayD b
  same : SameD a b
theorem Rel.refl {d : Dev} (h : MayD d) : Rel d d := ⟨h, h, SameD.refl d⟩
theorem Rel.blk {a b : Dev} (h : Rel a b) : a.blocks.length = b.blocks.length := by have := congrArg List.length h.same.2.1; simpa using this
theorem Rel.wt {a b : Dev} (h : Rel a b) : a.wait.length = b.wait.length := by have := congrArg List.length h.same.2.2; simpa using this
theorem rel_step {x : Act5} {a b : Dev} (h : Rel a b) (_hk : x.kind = 1 ∨ x.kind = 2 ∨ x.kind = 3) (hx : x.kind = 1 ∨ x.kind = 2 → 0 ≤ x.at_ ∧ x.at_ < a.blocks.length ∧ Blk x.data) :
    (rfull x b ∧ doE x a = 9) ∨ (¬ rfull x b ∧ doE x a = 0 ∧ Rel (doD x a) (rdo x b)) := by
  have wl := h.wt
  have hd := h.same.1
  by_cases hdd : a.dead = true
  · right
    have hdb : b.dead = true := by rw [← hd]; exact hdd
    exact ⟨(fun q => by rw [q.1] at hdb; cases hdb), (by unfold doE; rw [if_pos hdd]), (by unfold doD rdo; rw [if_pos hdd, if_pos hdb]; exact h)⟩
  · have hda : a.dead = false := by cases q : a.dead; rfl; exact absurd q hdd
    have hdb : b.dead = false := by rw [← hd]; exact hda
    have hdb' : ¬ b.dead = true := by rw [hdb]; simp
    have wrap : doE x a = 0 → SameD (doD x a) (rdo x b) → (∀ y ∈ (rdo x b).blocks, Blk y) → (rdo x b).dead = false → (∀ y ∈ (rdo x b).wait, Blk y.2) → Rel (doD x a) (rdo x b) := by
      intro hE hs h1 h2 h3
      have ma := (do_may h.ma hE).1
      exact ⟨ma, MayD.like ma hs (fun y hy => ⟨h1 y hy, fun q => by rw [h2] at q; cases q⟩) h3, hs⟩
    have bB : ∀ y ∈ b.blocks, Blk y := fun y hy => (h.mb.2.2.2.2.1 y hy).1
    have bW : ∀ y ∈ b.wait, Blk y.2 := fun y hy => (h.mb.2.2.2.2.2 y hy).2.2
    have eD : doD x a = deedD x a := by unfold doD; rw [if_neg hdd]
    have eR : rdo x b = rdeed x b := by unfold rdo; rw [if_neg hdb']
    have eE : doE x a = deedE x a := by unfold doE; rw [if_neg hdd]
    by_cases k1 : x.kind = 1
    · obtain ⟨p0, p1, p2⟩ := hx (.inl k1)
      have eE2 : doE x a = writeE a x.at_ x.data := by rw [eE]; unfold deedE; rw [if_pos k1]
      unfold writeE at eE2
      rw [if_neg (by rw [useE_of h.ma p0 p1 p2 hda]; simp)] at eE2
      by_cases hw : a.wait.length = 1024
      · rw [if_pos hw] at eE2
        exact .inl ⟨⟨hdb, k1, by omega⟩, eE2⟩
      · rw [if_neg hw] at eE2
        refine .inr ⟨fun q => hw (by have := q.2.2; omega), eE2, ?_⟩
        have eR2 : rdo x b = refPut b x.at_ x.data := by rw [eR]; unfold rdeed; rw [if_pos k1]
        have eD2 : doD x a = putD a x.at_ x.data := by rw [eD]; unfold deedD; rw [if_pos k1]
        refine wrap eE2 ?_ ?_ ?_ ?_
        · rw [eR2, eD2]
          refine ⟨hdb.symm, h.same.2.1, ?_⟩
          show (a.wait ++ [(x.at_, x.data)]).map fullW = (b.wait ++ [(x.at_, fullD x.data)]).map fullW
          rw [List.map_append, List.map_append, h.same.2.2]
          show _ ++ [(x.at_, fullD x.data)] = _ ++ [(x.at_, fullD (fullD x.data))]
          rw [fullD_twice]
        · rw [eR2]; exact bB
        · rw [eR2]; exact hdb
        · rw [eR2]
          intro y hy
          rcases List.mem_append.1 hy with q | q
          · exact bW y q
          · rw [List.mem_singleton.1 q]; exact blk_full p2
    · by_cases k2 : x.kind = 2
      · obtain ⟨p0, p1, p2⟩ := hx (.inr k2)
        have eE2 : doE x a = 0 := by rw [eE]; unfold deedE; rw [if_neg k1, if_pos k2]; exact useE_of h.ma p0 p1 p2 hda
        refine .inr ⟨fun q => k1 q.2.1, eE2, ?_⟩
        have eR2 : rdo x b = refSure b x.at_ x.data := by rw [eR]; unfold rdeed; rw [if_neg k1, if_pos k2]
        have eD2 : doD x a = fuaD a x.at_ x.data := by rw [eD]; unfold deedD; rw [if_neg k1, if_pos k2]
        refine wrap eE2 ?_ ?_ ?_ ?_
        · rw [eR2, eD2]
          refine ⟨hdb.symm, ?_, ?_⟩
          · show (a.blocks.set _ _).map fullD = (b.blocks.set _ (fullD x.data)).map fullD
            rw [List.map_set, List.map_set, h.same.2.1, fullD_twice]
          · show (a.wait.filter (keepB x.at_)).map fullW = ((b.wait.filter (keepB x.at_)).map fullW).map fullW
            rw [fullW_twice]
            exact keep_map _ h.same.2.2
        · rw [eR2]
          intro y hy
          rcases List.mem_or_eq_of_mem_set (show y ∈ b.blocks.set x.at_.toNat (fullD x.data) from hy) with q | q
          · exact bB y q
          · rw [q]; exact blk_full p2
        · rw [eR2]; exact hdb
        · rw [eR2]
          intro y hy
          obtain ⟨z, hz, e⟩ := List.mem_map.1 (show y ∈ (b.wait.filter (keepB x.at_)).map fullW from hy)
          rw [← e]
          exact blk_full (bW z (List.mem_filter.1 hz).1)
      · have eE2 : doE x a = 0 := by
          rw [eE]; unfold deedE; rw [if_neg k1, if_neg k2]; unfold flushE
          rw [if_neg (fun q => q h.ma), if_neg hdd]
        refine .inr ⟨fun q => k1 q.2.1, eE2, ?_⟩
        have eR2 : rdo x b = refFlushed b := by rw [eR]; unfold rdeed; rw [if_neg k1, if_neg k2]
        have eD2 : doD x a = flushD a := by rw [eD]; unfold deedD; rw [if_neg k1, if_neg k2]
        refine wrap eE2 ?_ ?_ ?_ ?_
        · rw [eR2, eD2]
          refine ⟨hdb.symm, ?_, rfl⟩
          rw [show (refFlushed b).blocks.map fullD = (seenL b b.blocks.length).map fullD from rfl, ← flush_same h.mb]
          exact flush_map _ _ _ _ h.same.2.2 h.same.2.1
        · rw [eR2]
          intro y hy
          obtain ⟨j, hj, e⟩ := List.mem_map.1 (show y ∈ (List.range b.blocks.length).map fun (j : Nat) => seen b (j : Int) from hy)
          rw [← e]
          have := List.mem_range.1 hj
          exact seen_blk h.mb _ (by omega) (by omega)
        · rw [eR2]; exact hdb
        · rw [eR2]; intro y hy; exact absurd hy List.not_mem_nil
def RelL (da db : List Dev) : Prop := da.length = db.length ∧ ∀ (i : Nat) (a b : Dev), da[i]? = some a → db[i]? = some b → Rel a b
theorem RelL.refl {ds : List Dev} (h : ∀ d ∈ ds, MayD d) : RelL ds ds := ⟨rfl, fun i a b ha hb => by
  rw [ha] at hb
  obtain rfl := Option.some.inj hb
  exact Rel.refl (h a (List.mem_of_getElem? ha))⟩
theorem RelL.sameL {da db : List Dev} (h : RelL da db) : SameL da db := ⟨h.1, fun i a b ha hb => by
  have := h.2 i a b ha hb
  exact ⟨may_smallD this.ma, may_smallD this.mb, this.same⟩⟩
theorem RelL.mayL {da db : List Dev} (h : RelL da db) (hM : MayL da) : MayL db := ⟨by rw [← h.1]; exact hM.1, by rw [← h.1]; exact hM.2.1, fun b hb => by
  obtain ⟨i, hi, rfl⟩ := List.mem_iff_getElem.1 hb
  exact (h.2 i _ _ (List.getElem?_eq_getElem (by have := h.1; omega)) (List.getElem?_eq_getElem hi)).mb⟩
theorem RelL.atL {da db : List Dev} (h : RelL da db) {k : Nat} (hk : k < da.length) : Rel (atL da k) (atL db k) := by
  unfold Go.Proofs.Ytldgpkaecfgagaa.atL
  rw [List.getD_eq_getElem?_getD, List.getD_eq_getElem?_getD, List.getElem?_eq_getElem hk, List.getElem?_eq_getElem (by have := h.1; omega)]
  exact h.2 k _ _ (List.getElem?_eq_getElem hk) (List.getElem?_eq_getElem _)
theorem RelL.mayA {da db : List Dev} (h : RelL da db) {x : Act5} (hA : MayA da x) : MayA db x := by
  obtain ⟨p0, p1, p2⟩ := hA
  have hr := (h.atL (k := x.disk.toNat) (by omega)).blk
  unfold Go.Proofs.Ytldgpkaecfgagaa.atL at hr
  refine ⟨p0, by rw [← h.1]; exact p1, ?_⟩
  rw [← hr]
  exact p2
theorem RelL.step {da db : List Dev} (h : RelL da db) {x : Act5} (hA : MayA da x) :
    (rfull x (Go.Proofs.Ytldgpkaecfgagaa.atL db x.disk.toNat) ∧ stepE da x = 9) ∨ (¬ rfull x (Go.Proofs.Ytldgpkaecfgagaa.atL db x.disk.toNat) ∧ stepE da x = 0 ∧ RelL (stepL da x) (rstep db x)) := by
  obtain ⟨p0, p1, p2⟩ := hA
  have hk : x.disk.toNat < da.length := by omega
  have hr := h.atL hk
  have hkk : x.kind = 1 ∨ x.kind = 2 ∨ x.kind = 3 := by
    rcases p2 with q | q
    · rcases q.1 with t | t
      · exact .inl t
      · exact .inr (.inl t)
    · exact .inr (.inr q.1)
  rcases rel_step hr hkk (fun t => by
    rcases p2 with q | q
    · exact q.2
    · omega) with ⟨q1, q2⟩ | ⟨q1, q2, q3⟩
  · exact .inl ⟨q1, q2⟩
  · refine .inr ⟨q1, q2, by unfold stepL rstep; rw [List.length_set, List.length_set]; exact h.1, fun i a b ha hb => ?_⟩
    unfold stepL at ha
    unfold rstep at hb
    rw [List.getElem?_set] at ha hb
    by_cases e : x.disk.toNat = i
    · rw [if_pos e] at ha hb
      subst e
      rw [if_pos hk] at ha
      rw [if_pos (by have := h.1; omega)] at hb
      injection ha with ha
      injection hb with hb
      rw [← ha, ← hb]
      exact q3
    · rw [if_neg e] at ha hb
      exact h.2 i a b ha hb

theorem DSlab.one_cell {w : World} {a : Option Addr} {n : Nat} {hs : List Value} {ds : List Dev} (h : DSlab w a n hs ds) : ∀ v ∈ hs, v.oneCell' = true := by
  intro v hv
  obtain ⟨i, hi, rfl⟩ := List.mem_iff_getElem.1 hv
  have hl := h.each.1
  obtain ⟨A, l, C, B, m, D, q0, q1, q2, _⟩ := h.each.2 (i / 3) _ (List.getElem?_eq_getElem (by omega))
  have hm : i % 3 = 0 ∨ i % 3 = 1 ∨ i % 3 = 2 := by omega
  rcases hm with t | t | t
  · rw [show i / 3 * 3 = i by omega, List.getElem?_eq_getElem hi] at q0
    injection q0 with q0
    rw [q0]; rfl
  · rw [show i / 3 * 3 + 1 = i by omega, List.getElem?_eq_getElem hi] at q1
    injection q1 with q1
    rw [q1]; rfl
  · rw [show i / 3 * 3 + 2 = i by omega, List.getElem?_eq_getElem hi] at q2
    injection q2 with q2
    rw [q2]; rfl
def d_dead (ds : List Dev) (k : Nat) : Prop := (atL ds k).dead = true
theorem done_tail {wt w6 : World} {a : Option Addr} {n g Cg k : Nat} {hs : List Value} {ds : List Dev} {A B : Option Addr} {l C m D : Nat} {dd : Bool} {d' : Dev} (hS : DSlab wt a n hs ds) (own : w6.ownsRow wt.heap.size 25 3 (.slice (some ⟨g, 0, none⟩) n Cg) n hs) (hb : Below wt.heap.size wt w6) (hk : k < n) (hv : DevV wt (.agg #[.slice A l C, .slice B m D, .bool dd]) d') (hd : d'.dead = dd) :
    DSlab (((w6.setCell ⟨g, k * 3, none⟩ (.slice A l C)).setCell ⟨g, k * 3 + 1, none⟩ (.slice B m D)).setCell ⟨g, k * 3 + 2, none⟩ (.bool dd)) (some ⟨g, 0, none⟩) n (((hs.set (k * 3) (.slice A l C)).set (k * 3 + 1) (.slice B m D)).set (k * 3 + 2) (.bool dd)) (ds.set k d') ∧
    Below wt.heap.size wt (((w6.setCell ⟨g, k * 3, none⟩ (.slice A l C)).setCell ⟨g, k * 3 + 1, none⟩ (.slice B m D)).setCell ⟨g, k * 3 + 2, none⟩ (.bool dd)) := by
  subst hd
  have hg := (own_lt own rfl).2
  have hB : Below wt.heap.size wt (((w6.setCell ⟨g, k * 3, none⟩ (.slice A l C)).setCell ⟨g, k * 3 + 1, none⟩ (.slice B m D)).setCell ⟨g, k * 3 + 2, none⟩ (.bool d'.dead)) := below_set3 hb hg
  have o3 := own_set (k := k * 3 + 2) (own_set (k := k * 3 + 1) (own_set (k := k * 3) own (.slice A l C)) (.slice B m D)) (.bool d'.dead)
  obtain ⟨_, _, e2, _, ro, _⟩ := own_form o3
  cases e2
  have hl := hS.each.1
  have hn := hS.len
  refine ⟨⟨ro, hS.max, by rw [List.length_set, List.length_set, List.length_set, List.length_set]; exact hl, fun i d hi => ?_⟩, hB⟩
  by_cases e : k = i
  · subst e
    rw [List.getElem?_set, if_pos rfl, if_pos (by omega)] at hi
    injection hi with hi
    subst hi
    exact ⟨A, l, C, B, m, D, get3_0 (by omega), get3_1 (by omega), get3_2 (by omega), hv.below hB (Nat.le_refl _)⟩
  · rw [List.getElem?_set, if_neg e] at hi
    obtain ⟨A1, l1, C1, B1, m1, D1, q0, q1, q2, q3⟩ := hS.each.2 i d hi
    exact ⟨A1, l1, C1, B1, m1, D1, (get3 (Ne.symm e) 0 (by omega)).trans q0, (get3 (Ne.symm e) 1 (by omega)).trans q1, (get3 (Ne.symm e) 2 (by omega)).trans q2, q3.below hB (Nat.le_refl _)⟩

set_option maxRecDepth 100000 in
set_option maxHeartbeats 8000000 in
theorem refdone_no (a : Option Addr) (n c : Nat) (hs : List Value) (ds : List Dev) (k : Nat) (kd at_ : Int) (dat : List Int) (A' : Option Addr) (L C' : Nat) (w : World) (h : DSlab w a n hs ds) (hM : MayL ds) (hk : k < n) (hok : ActOk w A' L ⟨(k : Int), kd, at_, dat⟩) (hf : rfull ⟨(k : Int), kd, at_, dat⟩ (atL ds k)) :
    Calls Try.prog 106 #[.slice a n c, .agg #[.int .i64 k, .int .u8 kd, .int .i64 at_, .slice A' L C']] w fun e w' => e = .returned (.tuple #[.slice none 0 0, .bool false]) ∧ Below w.heap.size w w' := by
  obtain ⟨i0, hi0, hz0, hz1, hz2⟩ := info_parts disk_info
  have hn17 : n ≤ 17 := by have := h.len; have := hM.2.1; omega
  obtain ⟨b, off, A, l, C, B, m, D, d, rfl, hd, hlt, q0, q1, q2, hv⟩ := h.at hk
  have hk1 : (k : Int) < (n : Int) := by omega
  have hMd := hM.2.2 d (List.mem_of_getElem? hd)
  have hat : atL ds k = d := by unfold atL; rw [List.getD_eq_getElem?_getD, hd]; rfl
  obtain ⟨hwm, hbn⟩ := dev_wait hv
  have bA := BoxA.new 67 w ⟨(k : Int), kd, at_, dat⟩ (.slice A' L C')
  have hb1 : Below w.heap.size w (w.alloc (.cells #[.int .i64 k, .int .u8 kd, .int .i64 at_, .slice A' L C'] 67)) := (Below.refl _ _).alloc (Nat.le_refl _) _
  have bD := BoxD.new (w.alloc (.cells #[.int .i64 k, .int .u8 kd, .int .i64 at_, .slice A' L C'] 67)) (.slice A l C) (.slice B m D) (.bool d.dead)
  have hb2 : Below w.heap.size w ((w.alloc (.cells #[.int .i64 k, .int .u8 kd, .int .i64 at_, .slice A' L C'] 67)).alloc (.cells #[.slice A l C, .slice B m D, .bool d.dead] 25)) := hb1.alloc hb1.size _
  have bA2 := bA.below (t := 67) ((Below.refl _ (w.alloc (.cells #[.int .i64 k, .int .u8 kd, .int .i64 at_, .slice A' L C'] 67))).alloc (Nat.le_refl _) (.cells #[.slice A l C, .slice B m D, .bool d.dead] 25))
  rw [World.size_alloc] at bD
  have f0 := (hb1.cell (p := ⟨b, off + k * 3, none⟩) hlt).trans q0
  have f1 := (hb1.cell (p := ⟨b, off + k * 3 + 1, none⟩) hlt).trans q1
  have f2 := (hb1.cell (p := ⟨b, off + k * 3 + 2, none⟩) hlt).trans q2
  have e0 := bA.c0
  simp only at e0 bA2
  have H := Lib.hid h
  have HV := Lib.hid hv
  have HMd := Lib.hid hMd
  have HOK := Lib.hid hok
  have HAT := Lib.hid hat
  rw [hat] at hf
  obtain ⟨hf0, hf1, hf2⟩ := hf
  simp only at hf1
  have k1 : (kd == 1) = true := by simp [hf1]
  have d1 : decide ((1024 : Int) ≤ (m : Int)) = true := decide_eq_true (by omega)
  have d2 : decide (1024 ≤ m) = true := decide_eq_true (by omega)
  have hdf : d.dead = false := hf0
  clear hf0 hf1 hf2
  clear h hv hMd hok hat hd hwm hbn q0 q1 q2 hM bA
  generalize hdd : d.dead = dd at *
  have HDD := Lib.hid hdd
  clear hdd
  obtain rfl : false = dd := hdf.symm
  clear hdf
  go_enter Try.func106, Try.ntmps106
  go_upto_region 2 with fail
  generalize (w.alloc (.cells #[.int .i64 k, .int .u8 kd, .int .i64 at_, .slice A' L C'] 67)).alloc (.cells #[.slice A l C, .slice B m D, .bool false] 25) = w2 at *
  have BA := Lib.hid bA2
  have BD := Lib.hid bD
  have HB2 := Lib.hid hb2
  have x0 := bD.c0
  have x1 := bD.c1
  have x2 := bD.c2
  have a0 := bA2.c0
  have a1 := bA2.c1
  have a2 := bA2.c2
  have a3 := bA2.c3
  simp only at a0 a1 a2 a3
  clear e0 f0 f1 f2 bA2 bD hb1 hb2
  go_wp2
  go_ret2
  exact ⟨rfl, HB2.out⟩

set_option maxRecDepth 100000 in
set_option maxHeartbeats 8000000 in
theorem refdone_dead (a : Option Addr) (n c : Nat) (hs : List Value) (ds : List Dev) (k : Nat) (kd at_ : Int) (dat : List Int) (A' : Option Addr) (L C' : Nat) (w : World) (h : DSlab w a n hs ds) (hM : MayL ds) (hk : k < n) (hok : ActOk w A' L ⟨(k : Int), kd, at_, dat⟩) (hf : d_dead ds k) :
    Calls Try.prog 106 #[.slice a n c, .agg #[.int .i64 k, .int .u8 kd, .int .i64 at_, .slice A' L C']] w fun e w' => ∃ a1 C1 hs1, e = .returned (.tuple #[.slice a1 n C1, .bool true]) ∧ DSlab w' a1 n hs1 (rstep ds ⟨(k : Int), kd, at_, dat⟩) ∧ Below w.heap.size w w' := by
  obtain ⟨i0, hi0, hz0, hz1, hz2⟩ := info_parts disk_info
  have hn17 : n ≤ 17 := by have := h.len; have := hM.2.1; omega
  obtain ⟨b, off, A, l, C, B, m, D, d, rfl, hd, hlt, q0, q1, q2, hv⟩ := h.at hk
  have hk1 : (k : Int) < (n : Int) := by omega
  have hMd := hM.2.2 d (List.mem_of_getElem? hd)
  have hat : atL ds k = d := by unfold atL; rw [List.getD_eq_getElem?_getD, hd]; rfl
  obtain ⟨hwm, hbn⟩ := dev_wait hv
  have bA := BoxA.new 67 w ⟨(k : Int), kd, at_, dat⟩ (.slice A' L C')
  have hb1 : Below w.heap.size w (w.alloc (.cells #[.int .i64 k, .int .u8 kd, .int .i64 at_, .slice A' L C'] 67)) := (Below.refl _ _).alloc (Nat.le_refl _) _
  have bD := BoxD.new (w.alloc (.cells #[.int .i64 k, .int .u8 kd, .int .i64 at_, .slice A' L C'] 67)) (.slice A l C) (.slice B m D) (.bool d.dead)
  have hb2 : Below w.heap.size w ((w.alloc (.cells #[.int .i64 k, .int .u8 kd, .int .i64 at_, .slice A' L C'] 67)).alloc (.cells #[.slice A l C, .slice B m D, .bool d.dead] 25)) := hb1.alloc hb1.size _
  have bA2 := bA.below (t := 67) ((Below.refl _ (w.alloc (.cells #[.int .i64 k, .int .u8 kd, .int .i64 at_, .slice A' L C'] 67))).alloc (Nat.le_refl _) (.cells #[.slice A l C, .slice B m D, .bool d.dead] 25))
  rw [World.size_alloc] at bD
  have f0 := (hb1.cell (p := ⟨b, off + k * 3, none⟩) hlt).trans q0
  have f1 := (hb1.cell (p := ⟨b, off + k * 3 + 1, none⟩) hlt).trans q1
  have f2 := (hb1.cell (p := ⟨b, off + k * 3 + 2, none⟩) hlt).trans q2
  have e0 := bA.c0
  simp only at e0 bA2
  have H := Lib.hid h
  have HV := Lib.hid hv
  have HMd := Lib.hid hMd
  have HOK := Lib.hid hok
  have HAT := Lib.hid hat
  have hdf : d.dead = true := by have t := hf; unfold d_dead at t; rw [hat] at t; exact t
  clear hf
  clear h hv hMd hok hat hd hwm hbn q0 q1 q2 hM bA
  generalize hdd : d.dead = dd at *
  have HDD := Lib.hid hdd
  clear hdd
  obtain rfl : true = dd := hdf.symm
  clear hdf
  go_enter Try.func106, Try.ntmps106
  go_upto_region 2 with fail
  generalize (w.alloc (.cells #[.int .i64 k, .int .u8 kd, .int .i64 at_, .slice A' L C'] 67)).alloc (.cells #[.slice A l C, .slice B m D, .bool true] 25) = w2 at *
  have BA := Lib.hid bA2
  have BD := Lib.hid bD
  have HB2 := Lib.hid hb2
  have x0 := bD.c0
  have x1 := bD.c1
  have x2 := bD.c2
  have a0 := bA2.c0
  have a1 := bA2.c1
  have a2 := bA2.c2
  have a3 := bA2.c3
  simp only at a0 a1 a2 a3
  clear e0 f0 f1 f2 bA2 bD hb1 hb2
  have BAt := BA
  have BDt := BD
  have HBt := HB2
  have HDt := Lib.hid (HV.out.below HB2.out (Nat.le_refl _))
  have hdt := HDD
  have RES0 := Lib.hid (show rstep ds ⟨(k : Int), kd, at_, dat⟩ = ds.set k d by
    show ds.set k (rdo _ (atL ds k)) = _
    rw [HAT.out]; unfold rdo; rw [if_pos HDD.out])
  clear BA BD HB2 HV
  generalize w2 = wt at *
  have x0 := BDt.out.c0
  have x1 := BDt.out.c1
  have x2 := BDt.out.c2
  have a0 := BAt.out.c0
  simp only at a0
  have HSt := Lib.hid (H.out.below HBt.out (Nat.le_refl _))
  go_wp2_with (at_builtin; refine wpList_append_row _ rfl (.tmp 40) (.tmp 41) 58 rfl wt.heap.size 25 i0 _ 3 56 Try.underlying58 hi0 hz0 hz1 hz2 rfl (by omega) (.slice none 0 0) 0 [] (by rfl) (World.ownsRow_nil _ _ _ _) (some ⟨b, off, none⟩) n c hs (by rfl) HSt.out.row HSt.out.one_cell (by simp only [maxLen]; omega) (by omega) (Nat.le_refl _) ?_)
  intro v6 w6 hown6 hgrow6 hv6
  clear hv6
  try simp only [Nat.zero_add, List.nil_append] at hown6
  have hb6 : Below wt.heap.size wt w6 := (Below.refl _ _).grown hgrow6 (by simp) (by intro k hk; simp [Value.ownBlock] at hk)
  obtain ⟨g, Cg, rfl, hg5, hg6⟩ := own_head hown6 (by omega)
  have hls := HSt.out.each.1
  have hlen := HSt.out.len
  have y0 := own_cell (k := k * 3) hown6 (List.getElem?_eq_getElem (by omega))
  have y1 := own_cell (k := k * 3 + 1) hown6 (List.getElem?_eq_getElem (by omega))
  have y2 := own_cell (k := k * 3 + 2) hown6 (List.getElem?_eq_getElem (by omega))
  generalize hs[k * 3]'_ = u0 at y0
  generalize hs[k * 3 + 1]'_ = u1 at y1
  generalize hs[k * 3 + 2]'_ = u2 at y2
  obtain ⟨y0, z0⟩ := y0
  obtain ⟨y1, z1⟩ := y1
  obtain ⟨y2, z2⟩ := y2
  have x0 := (BDt.out.below hb6).c0
  have x1 := (BDt.out.below hb6).c1
  have x2 := (BDt.out.below hb6).c2
  have a0 := (BAt.out.below hb6).c0
  simp only at a0
  have T := Lib.hid (done_tail (k := k) HSt.out hown6 hb6 hk HDt.out hdt.out)
  clear hown6 hgrow6 hls hlen hb6
  go_wp2
  go_ret2
  exact ⟨_, Cg, _, rfl, by rw [RES0.out]; exact T.out.1, HBt.out.trans (T.out.2.mono HBt.out.size)⟩

set_option maxRecDepth 100000 in
set_option maxHeartbeats 8000000 in
theorem refdone_put (a : Option Addr) (n c : Nat) (hs : List Value) (ds : List Dev) (k : Nat) (kd at_ : Int) (dat : List Int) (A' : Option Addr) (L C' : Nat) (w : World) (h : DSlab w a n hs ds) (hM : MayL ds) (hk : k < n) (hok : ActOk w A' L ⟨(k : Int), kd, at_, dat⟩) (hdf0 : (atL ds k).dead = false) (p0 : 0 ≤ at_) (p1 : at_ < (atL ds k).blocks.length) (p2 : Blk dat) (hk1' : kd = 1) (hw : (atL ds k).wait.length ≠ 1024) :
    Calls Try.prog 106 #[.slice a n c, .agg #[.int .i64 k, .int .u8 kd, .int .i64 at_, .slice A' L C']] w fun e w' => ∃ a1 C1 hs1, e = .returned (.tuple #[.slice a1 n C1, .bool true]) ∧ DSlab w' a1 n hs1 (rstep ds ⟨(k : Int), kd, at_, dat⟩) ∧ Below w.heap.size w w' := by
  obtain ⟨i0, hi0, hz0, hz1, hz2⟩ := info_parts disk_info
  have hn17 : n ≤ 17 := by have := h.len; have := hM.2.1; omega
  obtain ⟨b, off, A, l, C, B, m, D, d, rfl, hd, hlt, q0, q1, q2, hv⟩ := h.at hk
  have hk1 : (k : Int) < (n : Int) := by omega
  have hMd := hM.2.2 d (List.mem_of_getElem? hd)
  have hat : atL ds k = d := by unfold atL; rw [List.getD_eq_getElem?_getD, hd]; rfl
  obtain ⟨hwm, hbn⟩ := dev_wait hv
  have bA := BoxA.new 67 w ⟨(k : Int), kd, at_, dat⟩ (.slice A' L C')
  have hb1 : Below w.heap.size w (w.alloc (.cells #[.int .i64 k, .int .u8 kd, .int .i64 at_, .slice A' L C'] 67)) := (Below.refl _ _).alloc (Nat.le_refl _) _
  have bD := BoxD.new (w.alloc (.cells #[.int .i64 k, .int .u8 kd, .int .i64 at_, .slice A' L C'] 67)) (.slice A l C) (.slice B m D) (.bool d.dead)
  have hb2 : Below w.heap.size w ((w.alloc (.cells #[.int .i64 k, .int .u8 kd, .int .i64 at_, .slice A' L C'] 67)).alloc (.cells #[.slice A l C, .slice B m D, .bool d.dead] 25)) := hb1.alloc hb1.size _
  have bA2 := bA.below (t := 67) ((Below.refl _ (w.alloc (.cells #[.int .i64 k, .int .u8 kd, .int .i64 at_, .slice A' L C'] 67))).alloc (Nat.le_refl _) (.cells #[.slice A l C, .slice B m D, .bool d.dead] 25))
  rw [World.size_alloc] at bD
  have f0 := (hb1.cell (p := ⟨b, off + k * 3, none⟩) hlt).trans q0
  have f1 := (hb1.cell (p := ⟨b, off + k * 3 + 1, none⟩) hlt).trans q1
  have f2 := (hb1.cell (p := ⟨b, off + k * 3 + 2, none⟩) hlt).trans q2
  have e0 := bA.c0
  simp only at e0 bA2
  have H := Lib.hid h
  have HV := Lib.hid hv
  have HMd := Lib.hid hMd
  have HOK := Lib.hid hok
  have HAT := Lib.hid hat
  have hdf : d.dead = false := by rw [hat] at hdf0; exact hdf0
  clear hdf0
  rw [hat] at p1
  have P := Lib.hid (And.intro p0 (And.intro p1 p2))
  clear p0 p1 p2
  rw [hat] at hw
  have k1 : (kd == 1) = true := by simp [hk1']
  have d1 : decide ((1024 : Int) ≤ (m : Int)) = false := decide_eq_false (by have := hMd.2.2.1; omega)
  have d2 : decide (1024 ≤ m) = false := decide_eq_false (by have := hMd.2.2.1; omega)
  have HKD := Lib.hid hk1'
  clear hw hk1'
  clear h hv hMd hok hat hd hwm hbn q0 q1 q2 hM bA
  generalize hdd : d.dead = dd at *
  have HDD := Lib.hid hdd
  clear hdd
  obtain rfl : false = dd := hdf.symm
  clear hdf
  go_enter Try.func106, Try.ntmps106
  go_upto_region 2 with fail
  generalize (w.alloc (.cells #[.int .i64 k, .int .u8 kd, .int .i64 at_, .slice A' L C'] 67)).alloc (.cells #[.slice A l C, .slice B m D, .bool false] 25) = w2 at *
  have BA := Lib.hid bA2
  have BD := Lib.hid bD
  have HB2 := Lib.hid hb2
  have x0 := bD.c0
  have x1 := bD.c1
  have x2 := bD.c2
  have a0 := bA2.c0
  have a1 := bA2.c1
  have a2 := bA2.c2
  have a3 := bA2.c3
  simp only at a0 a1 a2 a3
  clear e0 f0 f1 f2 bA2 bD hb1 hb2
  have cc := fun W (hW : Below w.heap.size w W) => refput_calls _ d at_ A' L C' dat W (HV.out.below hW (Nat.le_refl _)) (HOK.out.bytes.below hW (Nat.le_refl _)) HMd.out P.out.2.2 P.out.1 P.out.2.1
  clear HMd
  go_wp2_with fail
  (with_reducible refine (cc _ HB2.out).mono ?_)
  rintro e w5 ⟨v5, rfl, hN, hb5⟩
  obtain ⟨A5, n5, C5, B5, m5, D5, rfl, -⟩ := hN.form4 HDD.out
  have hBD5 := BD.out.below hb5
  have hBA5 := BA.out.below hb5
  have X0 := hBD5.c0
  have X1 := hBD5.c1
  have X2 := hBD5.c2
  have Y0 := hBD5.fr (o := 0)
  have Y1 := hBD5.fr (o := 1)
  have Y2 := hBD5.fr (o := 2)
  have hS3 := (hN.mono HB2.out.size).setBox3 hBD5 (.slice A5 n5 C5) (.slice B5 m5 D5) (.bool false)
  have BDt := Lib.hid hS3.2
  have HDt := Lib.hid hS3.1.devV
  have HBt := Lib.hid (below_set3 (o1 := 0) (o2 := 1) (o3 := 2) (x := .slice A5 n5 C5) (y := .slice B5 m5 D5) (z := .bool false) (HB2.out.trans (hb5.mono HB2.out.size)) (show w.heap.size ≤ w.heap.size + 1 by omega))
  have BAt := Lib.hid (((hBA5.other (p := ⟨w.heap.size + 1, 0, none⟩) (show w.heap.size ≠ w.heap.size + 1 by omega) (.slice A5 n5 C5)).other (p := ⟨w.heap.size + 1, 1, none⟩) (show w.heap.size ≠ w.heap.size + 1 by omega) (.slice B5 m5 D5)).other (p := ⟨w.heap.size + 1, 2, none⟩) (show w.heap.size ≠ w.heap.size + 1 by omega) (.bool false))
  have hdt := Lib.hid (show (⟨d.blocks, d.wait ++ [(at_, fullD dat)], d.dead⟩ : Dev).dead = false from HDD.out)
  have RES0 := Lib.hid (show rstep ds ⟨(k : Int), kd, at_, dat⟩ = ds.set k ⟨d.blocks, d.wait ++ [(at_, fullD dat)], d.dead⟩ by
    show ds.set k (rdo _ (atL ds k)) = _
    rw [HAT.out]; unfold rdo; rw [if_neg (by rw [HDD.out]; simp)]; unfold rdeed; rw [if_pos HKD.out]; unfold refPut; rfl)
  clear cc hN hb5 hS3 hBD5 hBA5 BA BD HB2 HV x0 x1 x2 a0 a1 a2 a3
  go_upto_region 12 with fail
  generalize ((w5.setCell _ (.slice A5 n5 C5)).setCell _ (.slice B5 m5 D5)).setCell _ (.bool false) = wt at *
  clear X0 X1 X2 Y0 Y1 Y2
  have x0 := BDt.out.c0
  have x1 := BDt.out.c1
  have x2 := BDt.out.c2
  have a0 := BAt.out.c0
  simp only at a0
  have HSt := Lib.hid (H.out.below HBt.out (Nat.le_refl _))
  go_wp2_with (at_builtin; refine wpList_append_row _ rfl (.tmp 40) (.tmp 41) 58 rfl wt.heap.size 25 i0 _ 3 56 Try.underlying58 hi0 hz0 hz1 hz2 rfl (by omega) (.slice none 0 0) 0 [] (by rfl) (World.ownsRow_nil _ _ _ _) (some ⟨b, off, none⟩) n c hs (by rfl) HSt.out.row HSt.out.one_cell (by simp only [maxLen]; omega) (by omega) (Nat.le_refl _) ?_)
  intro v6 w6 hown6 hgrow6 hv6
  clear hv6
  try simp only [Nat.zero_add, List.nil_append] at hown6
  have hb6 : Below wt.heap.size wt w6 := (Below.refl _ _).grown hgrow6 (by simp) (by intro k hk; simp [Value.ownBlock] at hk)
  obtain ⟨g, Cg, rfl, hg5, hg6⟩ := own_head hown6 (by omega)
  have hls := HSt.out.each.1
  have hlen := HSt.out.len
  have y0 := own_cell (k := k * 3) hown6 (List.getElem?_eq_getElem (by omega))
  have y1 := own_cell (k := k * 3 + 1) hown6 (List.getElem?_eq_getElem (by omega))
  have y2 := own_cell (k := k * 3 + 2) hown6 (List.getElem?_eq_getElem (by omega))
  generalize hs[k * 3]'_ = u0 at y0
  generalize hs[k * 3 + 1]'_ = u1 at y1
  generalize hs[k * 3 + 2]'_ = u2 at y2
  obtain ⟨y0, z0⟩ := y0
  obtain ⟨y1, z1⟩ := y1
  obtain ⟨y2, z2⟩ := y2
  have x0 := (BDt.out.below hb6).c0
  have x1 := (BDt.out.below hb6).c1
  have x2 := (BDt.out.below hb6).c2
  have a0 := (BAt.out.below hb6).c0
  simp only at a0
  have T := Lib.hid (done_tail (k := k) HSt.out hown6 hb6 hk HDt.out hdt.out)
  clear hown6 hgrow6 hls hlen hb6
  go_wp2
  go_ret2
  exact ⟨_, Cg, _, rfl, by rw [RES0.out]; exact T.out.1, HBt.out.trans (T.out.2.mono HBt.out.size)⟩

set_option maxRecDepth 100000 in
set_option maxHeartbeats 8000000 in
theorem refdone_sure (a : Option Addr) (n c : Nat) (hs : List Value) (ds : List Dev) (k : Nat) (kd at_ : Int) (dat : List Int) (A' : Option Addr) (L C' : Nat) (w : World) (h : DSlab w a n hs ds) (hM : MayL ds) (hk : k < n) (hok : ActOk w A' L ⟨(k : Int), kd, at_, dat⟩) (hdf0 : (atL ds k).dead = false) (p0 : 0 ≤ at_) (p1 : at_ < (atL ds k).blocks.length) (p2 : Blk dat) (hk1' : kd = 2) :
    Calls Try.prog 106 #[.slice a n c, .agg #[.int .i64 k, .int .u8 kd, .int .i64 at_, .slice A' L C']] w fun e w' => ∃ a1 C1 hs1, e = .returned (.tuple #[.slice a1 n C1, .bool true]) ∧ DSlab w' a1 n hs1 (rstep ds ⟨(k : Int), kd, at_, dat⟩) ∧ Below w.heap.size w w' := by
  obtain ⟨i0, hi0, hz0, hz1, hz2⟩ := info_parts disk_info
  have hn17 : n ≤ 17 := by have := h.len; have := hM.2.1; omega
  obtain ⟨b, off, A, l, C, B, m, D, d, rfl, hd, hlt, q0, q1, q2, hv⟩ := h.at hk
  have hk1 : (k : Int) < (n : Int) := by omega
  have hMd := hM.2.2 d (List.mem_of_getElem? hd)
  have hat : atL ds k = d := by unfold atL; rw [List.getD_eq_getElem?_getD, hd]; rfl
  obtain ⟨hwm, hbn⟩ := dev_wait hv
  have bA := BoxA.new 67 w ⟨(k : Int), kd, at_, dat⟩ (.slice A' L C')
  have hb1 : Below w.heap.size w (w.alloc (.cells #[.int .i64 k, .int .u8 kd, .int .i64 at_, .slice A' L C'] 67)) := (Below.refl _ _).alloc (Nat.le_refl _) _
  have bD := BoxD.new (w.alloc (.cells #[.int .i64 k, .int .u8 kd, .int .i64 at_, .slice A' L C'] 67)) (.slice A l C) (.slice B m D) (.bool d.dead)
  have hb2 : Below w.heap.size w ((w.alloc (.cells #[.int .i64 k, .int .u8 kd, .int .i64 at_, .slice A' L C'] 67)).alloc (.cells #[.slice A l C, .slice B m D, .bool d.dead] 25)) := hb1.alloc hb1.size _
  have bA2 := bA.below (t := 67) ((Below.refl _ (w.alloc (.cells #[.int .i64 k, .int .u8 kd, .int .i64 at_, .slice A' L C'] 67))).alloc (Nat.le_refl _) (.cells #[.slice A l C, .slice B m D, .bool d.dead] 25))
  rw [World.size_alloc] at bD
  have f0 := (hb1.cell (p := ⟨b, off + k * 3, none⟩) hlt).trans q0
  have f1 := (hb1.cell (p := ⟨b, off + k * 3 + 1, none⟩) hlt).trans q1
  have f2 := (hb1.cell (p := ⟨b, off + k * 3 + 2, none⟩) hlt).trans q2
  have e0 := bA.c0
  simp only at e0 bA2
  have H := Lib.hid h
  have HV := Lib.hid hv
  have HMd := Lib.hid hMd
  have HOK := Lib.hid hok
  have HAT := Lib.hid hat
  have hdf : d.dead = false := by rw [hat] at hdf0; exact hdf0
  clear hdf0
  rw [hat] at p1
  have P := Lib.hid (And.intro p0 (And.intro p1 p2))
  clear p0 p1 p2
  have k1 : (kd == 1) = false := by simp [hk1']
  have k2 : (kd == 2) = true := by simp [hk1']
  have HKD := Lib.hid hk1'
  clear hk1'
  clear h hv hMd hok hat hd hwm hbn q0 q1 q2 hM bA
  generalize hdd : d.dead = dd at *
  have HDD := Lib.hid hdd
  clear hdd
  obtain rfl : false = dd := hdf.symm
  clear hdf
  go_enter Try.func106, Try.ntmps106
  go_upto_region 2 with fail
  generalize (w.alloc (.cells #[.int .i64 k, .int .u8 kd, .int .i64 at_, .slice A' L C'] 67)).alloc (.cells #[.slice A l C, .slice B m D, .bool false] 25) = w2 at *
  have BA := Lib.hid bA2
  have BD := Lib.hid bD
  have HB2 := Lib.hid hb2
  have x0 := bD.c0
  have x1 := bD.c1
  have x2 := bD.c2
  have a0 := bA2.c0
  have a1 := bA2.c1
  have a2 := bA2.c2
  have a3 := bA2.c3
  simp only at a0 a1 a2 a3
  clear e0 f0 f1 f2 bA2 bD hb1 hb2
  have cc := fun W (hW : Below w.heap.size w W) => refsure_calls _ d at_ A' L C' dat W (HV.out.below hW (Nat.le_refl _)) (HOK.out.bytes.below hW (Nat.le_refl _)) HMd.out P.out.2.2 P.out.1 P.out.2.1
  clear HMd
  go_wp2_with fail
  (with_reducible refine (cc _ HB2.out).mono ?_)
  rintro e w5 ⟨v5, rfl, hN, hb5⟩
  obtain ⟨A5, n5, C5, B5, m5, D5, rfl, -⟩ := hN.form4 HDD.out
  have hBD5 := BD.out.below hb5
  have hBA5 := BA.out.below hb5
  have X0 := hBD5.c0
  have X1 := hBD5.c1
  have X2 := hBD5.c2
  have Y0 := hBD5.fr (o := 0)
  have Y1 := hBD5.fr (o := 1)
  have Y2 := hBD5.fr (o := 2)
  have hS3 := (hN.mono HB2.out.size).setBox3 hBD5 (.slice A5 n5 C5) (.slice B5 m5 D5) (.bool false)
  have BDt := Lib.hid hS3.2
  have HDt := Lib.hid hS3.1.devV
  have HBt := Lib.hid (below_set3 (o1 := 0) (o2 := 1) (o3 := 2) (x := .slice A5 n5 C5) (y := .slice B5 m5 D5) (z := .bool false) (HB2.out.trans (hb5.mono HB2.out.size)) (show w.heap.size ≤ w.heap.size + 1 by omega))
  have BAt := Lib.hid (((hBA5.other (p := ⟨w.heap.size + 1, 0, none⟩) (show w.heap.size ≠ w.heap.size + 1 by omega) (.slice A5 n5 C5)).other (p := ⟨w.heap.size + 1, 1, none⟩) (show w.heap.size ≠ w.heap.size + 1 by omega) (.slice B5 m5 D5)).other (p := ⟨w.heap.size + 1, 2, none⟩) (show w.heap.size ≠ w.heap.size + 1 by omega) (.bool false))
  have hdt := Lib.hid (show (⟨d.blocks.set at_.toNat (fullD dat), keptL at_ d.wait, d.dead⟩ : Dev).dead = false from HDD.out)
  have RES0 := Lib.hid (show rstep ds ⟨(k : Int), kd, at_, dat⟩ = ds.set k ⟨d.blocks.set at_.toNat (fullD dat), keptL at_ d.wait, d.dead⟩ by
    show ds.set k (rdo _ (atL ds k)) = _
    rw [HAT.out]; unfold rdo; rw [if_neg (by rw [HDD.out]; simp)]; unfold rdeed; rw [if_neg (by have := HKD.out; simp only; omega), if_pos HKD.out]; unfold refSure; rfl)
  clear cc hN hb5 hS3 hBD5 hBA5 BA BD HB2 HV x0 x1 x2 a0 a1 a2 a3
  go_upto_region 12 with fail
  generalize ((w5.setCell _ (.slice A5 n5 C5)).setCell _ (.slice B5 m5 D5)).setCell _ (.bool false) = wt at *
  clear X0 X1 X2 Y0 Y1 Y2
  have x0 := BDt.out.c0
  have x1 := BDt.out.c1
  have x2 := BDt.out.c2
  have a0 := BAt.out.c0
  simp only at a0
  have HSt := Lib.hid (H.out.below HBt.out (Nat.le_refl _))
  go_wp2_with (at_builtin; refine wpList_append_row _ rfl (.tmp 40) (.tmp 41) 58 rfl wt.heap.size 25 i0 _ 3 56 Try.underlying58 hi0 hz0 hz1 hz2 rfl (by omega) (.slice none 0 0) 0 [] (by rfl) (World.ownsRow_nil _ _ _ _) (some ⟨b, off, none⟩) n c hs (by rfl) HSt.out.row HSt.out.one_cell (by simp only [maxLen]; omega) (by omega) (Nat.le_refl _) ?_)
  intro v6 w6 hown6 hgrow6 hv6
  clear hv6
  try simp only [Nat.zero_add, List.nil_append] at hown6
  have hb6 : Below wt.heap.size wt w6 := (Below.refl _ _).grown hgrow6 (by simp) (by intro k hk; simp [Value.ownBlock] at hk)
  obtain ⟨g, Cg, rfl, hg5, hg6⟩ := own_head hown6 (by omega)
  have hls := HSt.out.each.1
  have hlen := HSt.out.len
  have y0 := own_cell (k := k * 3) hown6 (List.getElem?_eq_getElem (by omega))
  have y1 := own_cell (k := k * 3 + 1) hown6 (List.getElem?_eq_getElem (by omega))
  have y2 := own_cell (k := k * 3 + 2) hown6 (List.getElem?_eq_getElem (by omega))
  generalize hs[k * 3]'_ = u0 at y0
  generalize hs[k * 3 + 1]'_ = u1 at y1
  generalize hs[k * 3 + 2]'_ = u2 at y2
  obtain ⟨y0, z0⟩ := y0
  obtain ⟨y1, z1⟩ := y1
  obtain ⟨y2, z2⟩ := y2
  have x0 := (BDt.out.below hb6).c0
  have x1 := (BDt.out.below hb6).c1
  have x2 := (BDt.out.below hb6).c2
  have a0 := (BAt.out.below hb6).c0
  simp only at a0
  have T := Lib.hid (done_tail (k := k) HSt.out hown6 hb6 hk HDt.out hdt.out)
  clear hown6 hgrow6 hls hlen hb6
  go_wp2
  go_ret2
  exact ⟨_, Cg, _, rfl, by rw [RES0.out]; exact T.out.1, HBt.out.trans (T.out.2.mono HBt.out.size)⟩

set_option maxRecDepth 100000 in
set_option maxHeartbeats 8000000 in
theorem refdone_flush (a : Option Addr) (n c : Nat) (hs : List Value) (ds : List Dev) (k : Nat) (kd at_ : Int) (dat : List Int) (A' : Option Addr) (L C' : Nat) (w : World) (h : DSlab w a n hs ds) (hM : MayL ds) (hk : k < n) (hok : ActOk w A' L ⟨(k : Int), kd, at_, dat⟩) (hdf0 : (atL ds k).dead = false) (hk1' : kd = 3) :
    Calls Try.prog 106 #[.slice a n c, .agg #[.int .i64 k, .int .u8 kd, .int .i64 at_, .slice A' L C']] w fun e w' => ∃ a1 C1 hs1, e = .returned (.tuple #[.slice a1 n C1, .bool true]) ∧ DSlab w' a1 n hs1 (rstep ds ⟨(k : Int), kd, at_, dat⟩) ∧ Below w.heap.size w w' := by
  obtain ⟨i0, hi0, hz0, hz1, hz2⟩ := info_parts disk_info
  have hn17 : n ≤ 17 := by have := h.len; have := hM.2.1; omega
  obtain ⟨b, off, A, l, C, B, m, D, d, rfl, hd, hlt, q0, q1, q2, hv⟩ := h.at hk
  have hk1 : (k : Int) < (n : Int) := by omega
  have hMd := hM.2.2 d (List.mem_of_getElem? hd)
  have hat : atL ds k = d := by unfold atL; rw [List.getD_eq_getElem?_getD, hd]; rfl
  obtain ⟨hwm, hbn⟩ := dev_wait hv
  have bA := BoxA.new 67 w ⟨(k : Int), kd, at_, dat⟩ (.slice A' L C')
  have hb1 : Below w.heap.size w (w.alloc (.cells #[.int .i64 k, .int .u8 kd, .int .i64 at_, .slice A' L C'] 67)) := (Below.refl _ _).alloc (Nat.le_refl _) _
  have bD := BoxD.new (w.alloc (.cells #[.int .i64 k, .int .u8 kd, .int .i64 at_, .slice A' L C'] 67)) (.slice A l C) (.slice B m D) (.bool d.dead)
  have hb2 : Below w.heap.size w ((w.alloc (.cells #[.int .i64 k, .int .u8 kd, .int .i64 at_, .slice A' L C'] 67)).alloc (.cells #[.slice A l C, .slice B m D, .bool d.dead] 25)) := hb1.alloc hb1.size _
  have bA2 := bA.below (t := 67) ((Below.refl _ (w.alloc (.cells #[.int .i64 k, .int .u8 kd, .int .i64 at_, .slice A' L C'] 67))).alloc (Nat.le_refl _) (.cells #[.slice A l C, .slice B m D, .bool d.dead] 25))
  rw [World.size_alloc] at bD
  have f0 := (hb1.cell (p := ⟨b, off + k * 3, none⟩) hlt).trans q0
  have f1 := (hb1.cell (p := ⟨b, off + k * 3 + 1, none⟩) hlt).trans q1
  have f2 := (hb1.cell (p := ⟨b, off + k * 3 + 2, none⟩) hlt).trans q2
  have e0 := bA.c0
  simp only at e0 bA2
  have H := Lib.hid h
  have HV := Lib.hid hv
  have HMd := Lib.hid hMd
  have HOK := Lib.hid hok
  have HAT := Lib.hid hat
  have hdf : d.dead = false := by rw [hat] at hdf0; exact hdf0
  clear hdf0
  have k1 : (kd == 1) = false := by simp [hk1']
  have k2 : (kd == 2) = false := by simp [hk1']
  have HKD := Lib.hid hk1'
  clear hk1'
  clear h hv hMd hok hat hd hwm hbn q0 q1 q2 hM bA
  generalize hdd : d.dead = dd at *
  have HDD := Lib.hid hdd
  clear hdd
  obtain rfl : false = dd := hdf.symm
  clear hdf
  go_enter Try.func106, Try.ntmps106
  go_upto_region 2 with fail
  generalize (w.alloc (.cells #[.int .i64 k, .int .u8 kd, .int .i64 at_, .slice A' L C'] 67)).alloc (.cells #[.slice A l C, .slice B m D, .bool false] 25) = w2 at *
  have BA := Lib.hid bA2
  have BD := Lib.hid bD
  have HB2 := Lib.hid hb2
  have x0 := bD.c0
  have x1 := bD.c1
  have x2 := bD.c2
  have a0 := bA2.c0
  have a1 := bA2.c1
  have a2 := bA2.c2
  have a3 := bA2.c3
  simp only at a0 a1 a2 a3
  clear e0 f0 f1 f2 bA2 bD hb1 hb2
  have cc := fun W (hW : Below w.heap.size w W) => refflushed_calls _ d W (HV.out.below hW (Nat.le_refl _)) HMd.out
  clear HMd
  go_wp2_with fail
  (with_reducible refine (cc _ HB2.out).mono ?_)
  rintro e w5 ⟨v5, rfl, hN, hb5⟩
  obtain ⟨A5, n5, C5, B5, m5, D5, rfl, -⟩ := hN.form4 HDD.out
  have hBD5 := BD.out.below hb5
  have hBA5 := BA.out.below hb5
  have X0 := hBD5.c0
  have X1 := hBD5.c1
  have X2 := hBD5.c2
  have Y0 := hBD5.fr (o := 0)
  have Y1 := hBD5.fr (o := 1)
  have Y2 := hBD5.fr (o := 2)
  have hS3 := (hN.mono HB2.out.size).setBox3 hBD5 (.slice A5 n5 C5) (.slice B5 m5 D5) (.bool false)
  have BDt := Lib.hid hS3.2
  have HDt := Lib.hid hS3.1.devV
  have HBt := Lib.hid (below_set3 (o1 := 0) (o2 := 1) (o3 := 2) (x := .slice A5 n5 C5) (y := .slice B5 m5 D5) (z := .bool false) (HB2.out.trans (hb5.mono HB2.out.size)) (show w.heap.size ≤ w.heap.size + 1 by omega))
  have BAt := Lib.hid (((hBA5.other (p := ⟨w.heap.size + 1, 0, none⟩) (show w.heap.size ≠ w.heap.size + 1 by omega) (.slice A5 n5 C5)).other (p := ⟨w.heap.size + 1, 1, none⟩) (show w.heap.size ≠ w.heap.size + 1 by omega) (.slice B5 m5 D5)).other (p := ⟨w.heap.size + 1, 2, none⟩) (show w.heap.size ≠ w.heap.size + 1 by omega) (.bool false))
  have hdt := Lib.hid (show (⟨seenL d d.blocks.length, [], d.dead⟩ : Dev).dead = false from HDD.out)
  have RES0 := Lib.hid (show rstep ds ⟨(k : Int), kd, at_, dat⟩ = ds.set k ⟨seenL d d.blocks.length, [], d.dead⟩ by
    show ds.set k (rdo _ (atL ds k)) = _
    rw [HAT.out]; unfold rdo; rw [if_neg (by rw [HDD.out]; simp)]; unfold rdeed; rw [if_neg (by have := HKD.out; simp only; omega), if_neg (by have := HKD.out; simp only; omega)]; unfold refFlushed; rfl)
  clear cc hN hb5 hS3 hBD5 hBA5 BA BD HB2 HV x0 x1 x2 a0 a1 a2 a3
  go_upto_region 12 with fail
  generalize ((w5.setCell _ (.slice A5 n5 C5)).setCell _ (.slice B5 m5 D5)).setCell _ (.bool false) = wt at *
  clear X0 X1 X2 Y0 Y1 Y2
  have x0 := BDt.out.c0
  have x1 := BDt.out.c1
  have x2 := BDt.out.c2
  have a0 := BAt.out.c0
  simp only at a0
  have HSt := Lib.hid (H.out.below HBt.out (Nat.le_refl _))
  go_wp2_with (at_builtin; refine wpList_append_row _ rfl (.tmp 40) (.tmp 41) 58 rfl wt.heap.size 25 i0 _ 3 56 Try.underlying58 hi0 hz0 hz1 hz2 rfl (by omega) (.slice none 0 0) 0 [] (by rfl) (World.ownsRow_nil _ _ _ _) (some ⟨b, off, none⟩) n c hs (by rfl) HSt.out.row HSt.out.one_cell (by simp only [maxLen]; omega) (by omega) (Nat.le_refl _) ?_)
  intro v6 w6 hown6 hgrow6 hv6
  clear hv6
  try simp only [Nat.zero_add, List.nil_append] at hown6
  have hb6 : Below wt.heap.size wt w6 := (Below.refl _ _).grown hgrow6 (by simp) (by intro k hk; simp [Value.ownBlock] at hk)
  obtain ⟨g, Cg, rfl, hg5, hg6⟩ := own_head hown6 (by omega)
  have hls := HSt.out.each.1
  have hlen := HSt.out.len
  have y0 := own_cell (k := k * 3) hown6 (List.getElem?_eq_getElem (by omega))
  have y1 := own_cell (k := k * 3 + 1) hown6 (List.getElem?_eq_getElem (by omega))
  have y2 := own_cell (k := k * 3 + 2) hown6 (List.getElem?_eq_getElem (by omega))
  generalize hs[k * 3]'_ = u0 at y0
  generalize hs[k * 3 + 1]'_ = u1 at y1
  generalize hs[k * 3 + 2]'_ = u2 at y2
  obtain ⟨y0, z0⟩ := y0
  obtain ⟨y1, z1⟩ := y1
  obtain ⟨y2, z2⟩ := y2
  have x0 := (BDt.out.below hb6).c0
  have x1 := (BDt.out.below hb6).c1
  have x2 := (BDt.out.below hb6).c2
  have a0 := (BAt.out.below hb6).c0
  simp only at a0
  have T := Lib.hid (done_tail (k := k) HSt.out hown6 hb6 hk HDt.out hdt.out)
  clear hown6 hgrow6 hls hlen hb6
  go_wp2
  go_ret2
  exact ⟨_, Cg, _, rfl, by rw [RES0.out]; exact T.out.1, HBt.out.trans (T.out.2.mono HBt.out.size)⟩

def DoneIs (w : World) (n : Nat) (ds : List Dev) (x : Act5) (e : Ending) (w' : World) : Prop := ∃ a1 C1 hs1, e = .returned (.tuple #[.slice a1 n C1, .bool true]) ∧ DSlab w' a1 n hs1 (rstep ds x) ∧ Below w.heap.size w w'
theorem refdone_yes (a : Option Addr) (n c : Nat) (hs : List Value) (ds : List Dev) (x : Act5) (A' : Option Addr) (L C' : Nat) (w : World) (h : DSlab w a n hs ds) (hM : MayL ds) (hA : MayA ds x) (hok : ActOk w A' L x) (hf : ¬ rfull x (atL ds x.disk.toNat)) :
    Calls Try.prog 106 #[.slice a n c, .agg #[.int .i64 x.disk, .int .u8 x.kind, .int .i64 x.at_, .slice A' L C']] w (DoneIs w n ds x) := by
  obtain ⟨dk, kd, at_, dat⟩ := x
  obtain ⟨p0, p1, p2⟩ := hA
  simp only at p0 p1 p2 hf ⊢
  have hn := h.len
  obtain ⟨k, rfl⟩ : ∃ q : Nat, dk = q := ⟨dk.toNat, by omega⟩
  have hk : k < n := by omega
  by_cases hd : (atL ds k).dead = true
  · exact refdone_dead a n c hs ds k kd at_ dat A' L C' w h hM hk hok hd
  · have hd0 : (atL ds k).dead = false := by cases q : (atL ds k).dead; rfl; exact absurd q hd
    rcases p2 with ⟨q, t0, t1, t2⟩ | ⟨q, t0, t1⟩
    · rcases q with q | q
      · exact refdone_put a n c hs ds k kd at_ dat A' L C' w h hM hk hok hd0 t0 t1 t2 q (fun t => hf ⟨hd0, q, t⟩)
      · exact refdone_sure a n c hs ds k kd at_ dat A' L C' w h hM hk hok hd0 t0 t1 t2 q
    · exact refdone_flush a n c hs ds k kd at_ dat A' L C' w h hM hk hok hd0 q
theorem refdone_full (a : Option Addr) (n c : Nat) (hs : List Value) (ds : List Dev) (x : Act5) (A' : Option Addr) (L C' : Nat) (w : World) (h : DSlab w a n hs ds) (hM : MayL ds) (hA : MayA ds x) (hok : ActOk w A' L x) (hf : rfull x (atL ds x.disk.toNat)) :
    Calls Try.prog 106 #[.slice a n c, .agg #[.int .i64 x.disk, .int .u8 x.kind, .int .i64 x.at_, .slice A' L C']] w fun e w' => e = .returned (.tuple #[.slice none 0 0, .bool false]) ∧ Below w.heap.size w w' := by
  obtain ⟨dk, kd, at_, dat⟩ := x
  obtain ⟨p0, p1, p2⟩ := hA
  simp only at p0 p1 p2 hf ⊢
  have hn := h.len
  obtain ⟨k, rfl⟩ : ∃ q : Nat, dk = q := ⟨dk.toNat, by omega⟩
  exact refdone_no a n c hs ds k kd at_ dat A' L C' w h hM (by omega) hok hf

set_option maxRecDepth 100000 in
set_option maxHeartbeats 8000000 in
theorem refbehind_calls (a : Option Addr) (n c : Nat) (hs : List Value) (ds : List Dev) (a0 : Option Addr) (n0 c0 : Nat) (hs0 : List Value) (ls : List Act5) (w : World) (h : DSlab w a n hs ds) (g : ASlab w a0 n0 hs0 ls) (hM : MayL ds) (hA : ∀ x ∈ ls, MayA ds x) :
    Calls Try.prog 91 #[.slice a n c, .slice a0 n0 c0] w fun e w' => (behind ds ls = (9, []) ∧ e = .returned (.tuple #[.slice none 0 0, .bool false]) ∧ Below w.heap.size w w') ∨ (∃ ra r a1 C1 hs1, behind ds ls = (0, ra) ∧ RelL ra r ∧ e = .returned (.tuple #[.slice a1 n C1, .bool true]) ∧ DSlab w' a1 n hs1 r ∧ Below w.heap.size w w') := by
  have hm := g.max
  have hl := Lib.hid g.len
  have G := Lib.hid g
  have HM := Lib.hid hM
  have HA := Lib.hid hA
  have H := Lib.hid h
  clear h g hM hA
  go_enter Try.func91, Try.ntmps91
  go_wp2
  go_loopw [6, 7] (fun out iv wr => ∃ (k : Nat) (ra r : List Dev) (a1 : Option Addr) (C1 : Nat) (hs1 : List Value), k ≤ n0 ∧ iv = .int .i64 k ∧ out = .slice a1 n C1 ∧ Hid (behind ds (ls.take k) = (0, ra) ∧ Fit ds ra ∧ RelL ra r) ∧ DSlab wr a1 n hs1 r ∧ Below w.heap.size w wr) (fun _ iv _ => n0 - (intOf iv).toNat)
  case atStart => exact ⟨0, ds, ds, a, c, hs, by omega, rfl, rfl, Lib.hid ⟨rfl, Fit.refl HM.out, RelL.refl HM.out.2.2⟩, H.out, Below.refl _ _⟩
  case round =>
    obtain ⟨k, ra, r, a1, C1, hs1, hk, rfl, rfl, hR, hS, hB⟩ := hrel
    by_cases hkn : k < n0
    · obtain ⟨b0, off0, A, L, C, x, rfl, hx, hlt, q0, q1, q2, q3, hok⟩ := G.out.at hkn
      have hkn1 : (k : Int) < (n0 : Int) := by omega
      have hAx : MayA ra x := (hR.out.2.1.mayA x).2 (HA.out x (List.mem_of_getElem? hx))
      have hMr := hR.out.2.2.mayL (hR.out.2.1.mayL HM.out)
      have e0 := (hB.cell (p := ⟨b0, off0 + k * 4, none⟩) hlt).trans q0
      have e1 := (hB.cell (p := ⟨b0, off0 + k * 4 + 1, none⟩) hlt).trans q1
      have e2 := (hB.cell (p := ⟨b0, off0 + k * 4 + 2, none⟩) hlt).trans q2
      have e3 := (hB.cell (p := ⟨b0, off0 + k * 4 + 3, none⟩) hlt).trans q3
      rcases hR.out.2.2.step hAx with ⟨hf, hE⟩ | ⟨hf, hE, hN⟩
      · have cd := refdone_full a1 n C1 hs1 r x A L C wr hS hMr (hR.out.2.2.mayA hAx) (hok.below hB (Nat.le_refl _)) hf
        have F := Lib.hid (show behind ds ls = (9, []) by
          have t := behind_no (r := ls.drop (k + 1)) (x := x) hR.out.1 (by rw [hE]; omega)
          rw [hE] at t
          rw [← t]
          congr 1
          have hk0 : k < ls.length := (List.getElem?_eq_some_iff.1 hx).1
          conv => lhs; rw [← List.take_append_drop k ls]
          rw [List.drop_eq_getElem_cons hk0]
          rw [List.getElem?_eq_getElem hk0] at hx
          injection hx with hx
          rw [hx])
        clear q0 q1 q2 q3 hx hok hAx hMr hf hE hS hR
        go_wp2_with fail
        (with_reducible refine cd.mono ?_)
        rintro e w3 ⟨rfl, hb3⟩
        have hB3 := hB.trans (hb3.mono hB.size)
        clear cd hb3
        go_wp2
        go_ret2
        exact .inl ⟨F.out, rfl, hB3⟩
      · have cd := refdone_yes a1 n C1 hs1 r x A L C wr hS hMr (hR.out.2.2.mayA hAx) (hok.below hB (Nat.le_refl _)) hf
        have F := Lib.hid (show behind ds (ls.take (k + 1)) = (0, stepL ra x) ∧ Fit ds (stepL ra x) ∧ RelL (stepL ra x) (rstep r x) by
          refine ⟨?_, hR.out.2.1.step (HA.out x (List.mem_of_getElem? hx)) hE, hN⟩
          rw [take_snocL hx]
          exact behind_yes hR.out.1 hE)
        clear q0 q1 q2 q3 hx hok hAx hMr hf hE hS hR hN
        go_wp2_with fail
        (with_reducible refine cd.mono ?_)
        rintro e w3 ⟨a2, C2, hs2, rfl, hS2, hb3⟩
        have hB3 := hB.trans (hb3.mono hB.size)
        have HS2 := Lib.hid hS2
        clear cd hb3 hS2
        go_wp2
        go_roundw
        case rel => exact ⟨k + 1, _, _, _, _, _, by omega, by go_num, rfl, F, HS2.out, hB3⟩
        case measure => simp [intOf]; omega
    · obtain rfl : n0 = k := by omega
      have F := Lib.hid (show behind ds ls = (0, ra) by
        have t := hR.out.1
        rwa [List.take_of_length_le (by have := hl.out; omega)] at t)
      have HS := Lib.hid hS
      clear hS
      go_wp2
      go_ret2
      exact .inr ⟨ra, r, a1, C1, hs1, F.out, hR.out.2.2, rfl, HS.out, hB⟩

def RunIs (w : World) (ds : List Dev) (ls : List Act5) (k : Int) (e : Ending) (w' : World) : Prop :=
  ∃ a1 n1 C1 hs1 r, e = .returned (.tuple #[.slice a1 n1 C1, .int .i64 (runE ds ls k)]) ∧ DSlab w' a1 n1 hs1 r ∧ SameL (runL ds ls k) r ∧ Below w.heap.size w w'
theorem RunIs.none {w w' : World} {ds : List Dev} {ls : List Act5} {k er : Int} (h1 : runE ds ls k = er) (h2 : runL ds ls k = []) (hb : Below w.heap.size w w') : RunIs w ds ls k (.returned (.tuple #[.slice none 0 0, .int .i64 er])) w' :=
  ⟨Option.none, 0, 0, [], [], by rw [h1], ⟨⟨rfl, .inl rfl⟩, by omega, ⟨rfl, fun i d h => by simp at h⟩⟩, by rw [h2]; exact SameL.refl fun d hd => absurd hd List.not_mem_nil, hb⟩
set_option maxRecDepth 100000 in
set_option maxHeartbeats 4000000 in
theorem refrun_calls (a : Option Addr) (n c : Nat) (hs : List Value) (ds : List Dev) (a0 : Option Addr) (n0 c0 : Nat) (hs0 : List Value) (ls : List Act5) (k : Int) (w : World) (h : DSlab w a n hs ds) (g : ASlab w a0 n0 hs0 ls) (hc : n0 ≤ c0) :
    Calls Try.prog 53 #[.slice a n c, .slice a0 n0 c0, .int .i64 k] w (RunIs w ds ls k) := by
  have cc := refcheck5_calls a0 n0 c0 hs0 ls a n c hs ds w g h
  have hl := Lib.hid g.len
  have hm := g.max
  by_cases hE : chkA ls ds = 0
  · rw [hE] at cc
    by_cases hk : k < 0 ∨ (ls.length : Int) < k
    · have R1 := Lib.hid (show runE ds ls k = 2 from (if_neg (fun q => q hE)).trans (if_pos hk))
      have R2 := Lib.hid (show runL ds ls k = [] from (if_neg (fun q => q hE)).trans (if_pos hk))
      have hx : decide (k < 0) = true ∨ (decide (k < 0) = false ∧ decide ((n0 : Int) < k) = true) := by
        by_cases q : k < 0
        · exact .inl (decide_eq_true q)
        · exact .inr ⟨decide_eq_false q, decide_eq_true (by have := hl.out; omega)⟩
      clear hk h g hE
      rcases hx with d1 | ⟨d1, d2⟩
      all_goals
        go_enter Try.func53, Try.ntmps53
        go_wp2_with fail
        (with_reducible refine cc.mono ?_)
        rintro e w2 ⟨rfl, hb2⟩
        go_wp2
        go_ret2
        exact RunIs.none R1.out R2.out hb2
    · obtain ⟨k, rfl⟩ : ∃ q : Nat, k = q := ⟨k.toNat, by omega⟩
      have hk0 : k ≤ n0 := by have := hl.out; omega
      have R1 := Lib.hid (show runE ds ls (k : Int) = (behind ds (ls.take k)).1 from (if_neg (fun q => q hE)).trans (if_neg hk))
      have R2 := Lib.hid (show runL ds ls (k : Int) = (behind ds (ls.take k)).2 from (if_neg (fun q => q hE)).trans (if_neg hk))
      have d1 : decide ((k : Int) < 0) = false := decide_eq_false (by omega)
      have d2 : decide ((n0 : Int) < (k : Int)) = false := decide_eq_false (by omega)
      have d3 : decide (n0 < k) = false := decide_eq_false (by omega)
      have hX : MayL ds ∧ ∀ x ∈ ls, MayA ds x := by
        rcases chkA_cases ls ds with q | q | q | q
        · rw [q.2.2] at hE; omega
        · rw [q.2.2.2] at hE; omega
        · exact ⟨q.1, q.2.2.2.1⟩
        · rw [q.2.2.2.2] at hE; omega
      have cb := fun W (hW : Below w.heap.size w W) => refbehind_calls a n c hs ds a0 k c0 _ (ls.take k) W (h.below hW (Nat.le_refl _)) ((g.take hk0).below hW (Nat.le_refl _)) hX.1 (fun x hx => hX.2 x (List.mem_of_mem_take hx))
      have hsl := act_to a0 n0 c0 k (by omega)
      clear hk h g hE hX
      go_enter Try.func53, Try.ntmps53
      go_wp2_with fail
      (with_reducible refine cc.mono ?_)
      rintro e w2 ⟨rfl, hb2⟩
      clear cc
      go_wp2_with fail
      (with_reducible refine (cb _ hb2).mono ?_)
      rintro e w3 (⟨F, rfl, hb3⟩ | ⟨ra, r, a1, C1, hs1, F, hR, rfl, hS, hb3⟩)
      · have hB3 := hb2.trans (hb3.mono hb2.size)
        have F' := Lib.hid F
        clear cb hsl hb3 F
        go_wp2
        go_ret2
        exact RunIs.none (by rw [R1.out, F'.out]) (by rw [R2.out, F'.out]) hB3
      · have hB3 := hb2.trans (hb3.mono hb2.size)
        have F' := Lib.hid F
        have HS := Lib.hid hS
        have HR := Lib.hid hR
        clear cb hsl hb3 F hS hR
        go_wp2
        go_ret2
        exact ⟨a1, n, C1, hs1, r, by rw [R1.out, F'.out]; rfl, HS.out, by rw [R2.out, F'.out]; exact HR.out.sameL, hB3⟩
  · have R1 := Lib.hid (show runE ds ls k = chkA ls ds from if_pos hE)
    have R2 := Lib.hid (show runL ds ls k = [] from if_pos hE)
    have d0 : (chkA ls ds != 0) = true := by simp [hE]
    generalize chkA ls ds = er at *
    clear hE h g
    go_enter Try.func53, Try.ntmps53
    go_wp2_with fail
    (with_reducible refine cc.mono ?_)
    rintro e w2 ⟨rfl, hb2⟩
    go_wp2
    go_ret2
    exact RunIs.none R1.out R2.out hb2

set_option maxRecDepth 100000 in
set_option maxHeartbeats 4000000 in
theorem long6_calls (a : Option Addr) (n c : Nat) (hs : List Value) (ls : List Act5) (w : World) (h : ASlab w a n hs ls) :
    Calls Try.prog 50 #[.slice a n c] w fun e w' => (∃ r, e = .returned (.bool r) ∧ (r = false → n ≤ 1100 ∧ ∀ x ∈ ls, x.data.length ≤ 1000000)) ∧ Below w.heap.size w w' := by
  have hm := h.max
  have hl := Lib.hid h.len
  have H := Lib.hid h
  clear h
  go_enter Try.func50, Try.ntmps50
  go_wp2
  go_loopw [3, 4] (fun s i wr => ∃ (k : Nat) (z : Nat), k ≤ n ∧ k ≤ 1200 ∧ i = .int .i64 k ∧ s = .int .i64 z ∧ z ≤ k * 100008 ∧ Hid (∀ x ∈ ls.take k, x.data.length ≤ 100000 ∧ x.data.length ≤ z ∨ 100000 ≤ z) ∧ Below w.heap.size w wr) (fun _ i _ => n - (intOf i).toNat)
  case atStart => exact ⟨0, 0, by omega, by omega, rfl, rfl, by omega, Lib.hid (by simp), Below.refl _ _⟩
  case round =>
    obtain ⟨k, z, hk, hk2, rfl, rfl, hz, hP, hB⟩ := hrel
    by_cases hkn : k < n
    · have hkn1 : (k : Int) < (n : Int) := by omega
      by_cases h12 : k < 1200
      · have d12 : decide ((k : Int) < 1200) = true := decide_eq_true (by omega)
        obtain ⟨b, off, A, L, C, x, rfl, hx, hlt, q0, q1, q2, q3, hok⟩ := H.out.at hkn
        have c3 := (hB.cell (p := ⟨b, off + k * 4 + 3, none⟩) hlt).trans q3
        have hL := hok.bytes.max
        have hLx := Lib.hid hok.bytes.len
        have E := Lib.hid (take_snocL hx)
        have step : ∀ q : Nat, (L ≤ 100000 ∧ q = L ∨ 100000 < L ∧ q = 100000) → Hid (∀ y ∈ ls.take (k + 1), y.data.length ≤ 100000 ∧ y.data.length ≤ z + (8 + q) ∨ 100000 ≤ z + (8 + q)) := by
          intro q hq
          refine Lib.hid fun y hy => ?_
          rw [E.out] at hy
          rcases List.mem_append.1 hy with t | t
          · have := hP.out y t
            omega
          · rw [List.mem_singleton.1 t]
            have := hLx.out
            omega
        clear hok hx q0 q1 q2 q3
        by_cases hq : L ≤ 100000
        · have S := step L (.inl ⟨hq, rfl⟩)
          have hq1 : (L : Int) ≤ 100000 := by omega
          clear step
          go_wp2
          go_roundw
          case rel => exact ⟨k + 1, z + (8 + L), by omega, by omega, by go_num, by go_num, by omega, S, hB⟩
          case measure => simp [intOf]; omega
        · have S := step 100000 (.inr ⟨by omega, rfl⟩)
          have hq1 : ¬ (L : Int) ≤ 100000 := by omega
          have hq2 : (100000 : Int) < (L : Int) := by omega
          clear step
          go_wp2
          go_roundw
          case rel => exact ⟨k + 1, z + (8 + 100000), by omega, by omega, by go_num, by go_num, by omega, S, hB⟩
          case measure => simp [intOf]; omega
      · obtain rfl : k = 1200 := by omega
        have d11 : decide ((1100 : Int) < (n : Int)) = true := decide_eq_true (by omega)
        go_wp2
        go_ret
        exact ⟨⟨true, rfl, fun q => by cases q⟩, hB⟩
    · obtain rfl : n = k := by omega
      by_cases h11 : 1100 < n
      · have d11 : decide ((1100 : Int) < (n : Int)) = true := decide_eq_true (by omega)
        go_wp2
        go_ret
        exact ⟨⟨true, rfl, fun q => by cases q⟩, hB⟩
      · have d11 : decide ((1100 : Int) < (n : Int)) = false := decide_eq_false (by omega)
        by_cases h6 : 60000 < z
        · have d6 : decide ((60000 : Int) < (z : Int)) = true := decide_eq_true (by omega)
          go_wp2
          go_ret
          exact ⟨⟨true, rfl, fun q => by cases q⟩, hB⟩
        · have d6 : decide ((60000 : Int) < (z : Int)) = false := decide_eq_false (by omega)
          have R := Lib.hid (show ∀ x ∈ ls, x.data.length ≤ 1000000 by
            intro x hx
            have := hP.out x (by rw [List.take_of_length_le (by have := hl.out; omega)]; exact hx)
            omega)
          go_wp2
          go_ret
          exact ⟨⟨false, rfl, fun _ => ⟨by omega, R.out⟩⟩, hB⟩
end Go.Proofs.Ytldgpkaecfgagaa
