/- The walks of the reference's Write, Fua, Flush. -/
import Derived.Test.YtldgpkaecfgagaaRefDG
namespace Go.Proofs.Ytldgpkaecfgagaa
open Go.RowKit PolyM PackM FoldM DevM

/-- What the reference answers: a device that has waiting blocks whole. -/
def refPut (d : Dev) (k : Int) (zs : List Int) : Dev := ⟨d.blocks, d.wait ++ [(k, fullD zs)], d.dead⟩
def refSure (d : Dev) (k : Int) (zs : List Int) : Dev := ⟨d.blocks.set k.toNat (fullD zs), keptL k d.wait, d.dead⟩
def refFlushed (d : Dev) : Dev := ⟨seenL d d.blocks.length, [], d.dead⟩
/-- An error's way out: the boxes' cells, the empty device. -/
theorem out_none {w w2 : World} {bR : Nat} {er : Int} (hB : Below w.heap.size w w2) (_yR : BoxD w2 bR (.slice none 0 0) (.slice none 0 0) (.bool false)) (hR : w.heap.size ≤ bR) : DevIs w er ⟨[], [], false⟩ (.returned (.tuple #[noDev, .int .i64 er])) (((w2.setCell ⟨bR, 0, none⟩ (.slice none 0 0)).setCell ⟨bR, 1, none⟩ (.slice none 0 0)).setCell ⟨bR, 2, none⟩ (.bool false)) :=
  ⟨_, rfl, noDev_is _ _, ((hB.setCell hR _).setCell hR _).setCell hR _⟩

set_option maxRecDepth 100000 in
set_option maxHeartbeats 4000000 in
theorem refwrite_no (v : Value) (d : Dev) (k : Int) (a : Option Addr) (q c : Nat) (zs : List Int) (w : World) (h : DevV w v d) (hz : Ints .u8 w a q zs) (hE : writeE d k zs ≠ 0) :
    Calls Try.prog 33 #[v, .int .i64 k, .slice a q c] w (DevIs w (writeE d k zs) ⟨[], [], false⟩) := by
  have hv := h
  obtain ⟨A, n, C, hs, B, m, D, ht, rfl, h1, h2⟩ := h
  have hb : Below w.heap.size w ((w.alloc (.cells #[.slice A n C, .slice B m D, .bool d.dead] 25)).alloc (.cells #[.slice none 0 0, .slice none 0 0, .bool false] 25)) := ((Below.refl _ _).alloc (Nat.le_refl _) _).alloc (by simp) _
  have hR : w.heap.size ≤ w.heap.size + 1 := by omega
  have bx0 := (BoxD.new w (.slice A n C) (.slice B m D) (.bool d.dead)).alloc (.cells #[.slice none 0 0, .slice none 0 0, .bool false] 25)
  have bx1 := BoxD.new (w.alloc (.cells #[.slice A n C, .slice B m D, .bool d.dead] 25)) (.slice none 0 0) (.slice none 0 0) (.bool false)
  rw [World.size_alloc] at bx1
  have hd := fun W (hW : Below w.heap.size w W) => hv.below hW (Nat.le_refl _)
  have cc := refwritten_calls _ d k a q c zs _ (hd _ hb) (hz.below hb (Nat.le_refl _))
  have hx : ((useE d k zs == 0) = false ∧ (useE d k zs != 0) = true ∧ Hid (writeE d k zs = useE d k zs)) ∨ (useE d k zs = 0 ∧ decide ((1024 : Int) ≤ (m : Int)) = true ∧ Hid (writeE d k zs = 9)) := by
    unfold writeE at *
    by_cases p1 : useE d k zs = 0
    · rw [if_neg (fun q => q p1)] at *
      by_cases p2 : d.wait.length = 1024
      · exact .inr ⟨p1, decide_eq_true (by rw [h2.len] at p2; omega), if_pos p2⟩
      · rw [if_neg p2] at hE; exact absurd rfl hE
    · exact .inl ⟨by simp [p1], err_ne p1, if_pos p1⟩
  clear hE hv h1 h2 hz hd
  generalize useE d k zs = er at *
  generalize d.dead = dd at *
  rcases hx with ⟨q0, q1, E⟩ | ⟨rfl, q2, E⟩
  · rw [E.out]
    go_enter Try.func33, Try.ntmps33
    go_wp2_with fail
    (with_reducible refine cc.mono ?_)
    rintro e w2 ⟨rfl, hb2⟩
    have b1 := bx1.below hb2
    have f0 := b1.c0
    have f1 := b1.c1
    have f2 := b1.c2
    have r0 := b1.fr (o := 0)
    have r1 := b1.fr (o := 1)
    have r2 := b1.fr (o := 2)
    have y1 := b1
    clear cc bx0 bx1
    have hB2 := hb.trans (hb2.mono hb.size)
    clear hb2 b1
    go_wp2
    exact bodyPost_ret (v := .tuple #[noDev, .int .i64 er]) (by simp [results, Try.results33, go_sem, f0, f1, f2, noDev]) rfl (out_none hB2 y1 hR)
  · rw [E.out]
    go_enter Try.func33, Try.ntmps33
    go_wp2_with fail
    (with_reducible refine cc.mono ?_)
    rintro e w2 ⟨rfl, hb2⟩
    have b1 := bx1.below hb2
    have f0 := b1.c0
    have f1 := b1.c1
    have f2 := b1.c2
    have r0 := b1.fr (o := 0)
    have r1 := b1.fr (o := 1)
    have r2 := b1.fr (o := 2)
    have y1 := b1
    have b0 := bx0.below hb2
    have e0 := b0.c0
    have e1 := b0.c1
    have e2 := b0.c2
    clear cc bx0 bx1 b0
    have hB2 := hb.trans (hb2.mono hb.size)
    clear hb2 b1
    go_wp2
    exact bodyPost_ret (v := .tuple #[noDev, .int .i64 9]) (by simp [results, Try.results33, go_sem, f0, f1, f2, noDev]) rfl (out_none hB2 y1 hR)

set_option maxRecDepth 100000 in
set_option maxHeartbeats 4000000 in
theorem refwrite_yes (v : Value) (d : Dev) (k : Int) (a : Option Addr) (q c : Nat) (zs : List Int) (w : World) (h : DevV w v d) (hz : Ints .u8 w a q zs) (hE : writeE d k zs = 0) :
    Calls Try.prog 33 #[v, .int .i64 k, .slice a q c] w (DevIs w 0 (refPut d k zs)) := by
  have hv := h
  obtain ⟨A, n, C, hs, B, m, D, ht, rfl, h1, h2⟩ := h
  have hb : Below w.heap.size w ((w.alloc (.cells #[.slice A n C, .slice B m D, .bool d.dead] 25)).alloc (.cells #[.slice none 0 0, .slice none 0 0, .bool false] 25)) := ((Below.refl _ _).alloc (Nat.le_refl _) _).alloc (by simp) _
  have hR : w.heap.size ≤ w.heap.size + 1 := by omega
  have bx0 := (BoxD.new w (.slice A n C) (.slice B m D) (.bool d.dead)).alloc (.cells #[.slice none 0 0, .slice none 0 0, .bool false] 25)
  have bx1 := BoxD.new (w.alloc (.cells #[.slice A n C, .slice B m D, .bool d.dead] 25)) (.slice none 0 0) (.slice none 0 0) (.bool false)
  rw [World.size_alloc] at bx1
  have hd := fun W (hW : Below w.heap.size w W) => hv.below hW (Nat.le_refl _)
  obtain ⟨hu, hlt⟩ := writeE_zero hE
  have hm1 : decide ((1024 : Int) ≤ (m : Int)) = false := decide_eq_false (by rw [h2.len] at hlt; omega)
  obtain ⟨hM, p2, p3, hB, hdd⟩ := useE_zero hu
  have cc := refwritten_calls _ d k a q c zs _ (hd _ hb) (hz.below hb (Nat.le_refl _))
  rw [hu] at cc
  have cp := fun W (hW : Below w.heap.size w W) => refput_calls _ d k a q c zs W (hd W hW) (hz.below hW (Nat.le_refl _)) hM hB p2 p3
  rw [show (⟨d.blocks, d.wait ++ [(k, fullD zs)], d.dead⟩ : Dev) = refPut d k zs from rfl] at cp
  generalize refPut d k zs = rd at *
  clear hE hu hM p2 p3 hB hdd hv h1 h2 hz hd hlt
  generalize d.dead = dd at *
  go_enter Try.func33, Try.ntmps33
  go_wp2_with fail
  (with_reducible refine cc.mono ?_)
  rintro e w2 ⟨rfl, hb2⟩
  have b0 := bx0.below hb2
  have e0 := b0.c0
  have e1 := b0.c1
  have e2 := b0.c2
  have bx2 := bx1.below hb2
  have hB2 := hb.trans (hb2.mono hb.size)
  clear cc bx0 bx1 b0 hb2 hb
  go_wp2_with fail
  (with_reducible refine (cp _ hB2).mono ?_)
  rintro e w3 ⟨v3, rfl, hN, hb2⟩
  obtain ⟨A', n', C', B', m', D', rfl, hn', hm'⟩ := hN.form
  have b1 := bx2.below hb2
  have f0 := b1.c0
  have f1 := b1.c1
  have f2 := b1.c2
  have r0 := b1.fr (o := 0)
  have r1 := b1.fr (o := 1)
  have r2 := b1.fr (o := 2)
  have hN' := Lib.hid (hN.mono hB2.size)
  have hB3 := hB2.trans (hb2.mono hB2.size)
  clear cp hN hb2 hB2 hn' hm' e0 e1 e2 bx2
  go_wp2
  have d2 := (hN'.out.setBox3 b1 (.slice A' n' C') (.slice B' m' D') (.bool rd.dead)).1
  exact bodyPost_ret (v := .tuple #[.agg #[.slice A' n' C', .slice B' m' D', .bool rd.dead], .int .i64 0]) (by simp [results, Try.results33, go_sem, f0, f1, f2]) rfl ⟨_, rfl, d2, ((hB3.setCell hR _).setCell hR _).setCell hR _⟩
theorem refwrite_calls (v : Value) (d : Dev) (k : Int) (a : Option Addr) (q c : Nat) (zs : List Int) (w : World) (h : DevV w v d) (hz : Ints .u8 w a q zs) :
    Calls Try.prog 33 #[v, .int .i64 k, .slice a q c] w (DevIs w (writeE d k zs) (resD (writeE d k zs) (refPut d k zs))) := by
  by_cases hE : writeE d k zs = 0
  · rw [hE]
    exact refwrite_yes v d k a q c zs w h hz hE
  · rw [show resD (writeE d k zs) (refPut d k zs) = ⟨[], [], false⟩ from if_neg hE]
    exact refwrite_no v d k a q c zs w h hz hE

set_option maxRecDepth 100000 in
set_option maxHeartbeats 4000000 in
theorem reffua_no (v : Value) (d : Dev) (k : Int) (a : Option Addr) (q c : Nat) (zs : List Int) (w : World) (h : DevV w v d) (hz : Ints .u8 w a q zs) (hE : useE d k zs ≠ 0) :
    Calls Try.prog 35 #[v, .int .i64 k, .slice a q c] w (DevIs w (useE d k zs) ⟨[], [], false⟩) := by
  have hv := h
  obtain ⟨A, n, C, hs, B, m, D, ht, rfl, h1, h2⟩ := h
  have hb : Below w.heap.size w ((w.alloc (.cells #[.slice A n C, .slice B m D, .bool d.dead] 25)).alloc (.cells #[.slice none 0 0, .slice none 0 0, .bool false] 25)) := ((Below.refl _ _).alloc (Nat.le_refl _) _).alloc (by simp) _
  have hR : w.heap.size ≤ w.heap.size + 1 := by omega
  have bx0 := (BoxD.new w (.slice A n C) (.slice B m D) (.bool d.dead)).alloc (.cells #[.slice none 0 0, .slice none 0 0, .bool false] 25)
  have bx1 := BoxD.new (w.alloc (.cells #[.slice A n C, .slice B m D, .bool d.dead] 25)) (.slice none 0 0) (.slice none 0 0) (.bool false)
  rw [World.size_alloc] at bx1
  have hd := fun W (hW : Below w.heap.size w W) => hv.below hW (Nat.le_refl _)
  have cc := refwritten_calls _ d k a q c zs _ (hd _ hb) (hz.below hb (Nat.le_refl _))
  have q1 := err_ne hE
  clear hE hv h1 h2 hz hd
  generalize useE d k zs = er at *
  generalize d.dead = dd at *
  go_enter Try.func35, Try.ntmps35
  go_wp2_with fail
  (with_reducible refine cc.mono ?_)
  rintro e w2 ⟨rfl, hb2⟩
  have b1 := bx1.below hb2
  have f0 := b1.c0
  have f1 := b1.c1
  have f2 := b1.c2
  have r0 := b1.fr (o := 0)
  have r1 := b1.fr (o := 1)
  have r2 := b1.fr (o := 2)
  have y1 := b1
  clear cc bx0 bx1
  have hB2 := hb.trans (hb2.mono hb.size)
  clear hb2 b1
  go_wp2
  exact bodyPost_ret (v := .tuple #[noDev, .int .i64 er]) (by simp [results, Try.results35, go_sem, f0, f1, f2, noDev]) rfl (out_none hB2 y1 hR)

set_option maxRecDepth 100000 in
set_option maxHeartbeats 4000000 in
theorem reffua_yes (v : Value) (d : Dev) (k : Int) (a : Option Addr) (q c : Nat) (zs : List Int) (w : World) (h : DevV w v d) (hz : Ints .u8 w a q zs) (hE : useE d k zs = 0) :
    Calls Try.prog 35 #[v, .int .i64 k, .slice a q c] w (DevIs w 0 (refSure d k zs)) := by
  have hv := h
  obtain ⟨A, n, C, hs, B, m, D, ht, rfl, h1, h2⟩ := h
  have hb : Below w.heap.size w ((w.alloc (.cells #[.slice A n C, .slice B m D, .bool d.dead] 25)).alloc (.cells #[.slice none 0 0, .slice none 0 0, .bool false] 25)) := ((Below.refl _ _).alloc (Nat.le_refl _) _).alloc (by simp) _
  have hR : w.heap.size ≤ w.heap.size + 1 := by omega
  have bx0 := (BoxD.new w (.slice A n C) (.slice B m D) (.bool d.dead)).alloc (.cells #[.slice none 0 0, .slice none 0 0, .bool false] 25)
  have bx1 := BoxD.new (w.alloc (.cells #[.slice A n C, .slice B m D, .bool d.dead] 25)) (.slice none 0 0) (.slice none 0 0) (.bool false)
  rw [World.size_alloc] at bx1
  have hd := fun W (hW : Below w.heap.size w W) => hv.below hW (Nat.le_refl _)
  have hu := hE
  obtain ⟨hM, p2, p3, hB, hdd⟩ := useE_zero hu
  have cc := refwritten_calls _ d k a q c zs _ (hd _ hb) (hz.below hb (Nat.le_refl _))
  rw [hu] at cc
  have cp := fun W (hW : Below w.heap.size w W) => refsure_calls _ d k a q c zs W (hd W hW) (hz.below hW (Nat.le_refl _)) hM hB p2 p3
  rw [show (⟨d.blocks.set k.toNat (fullD zs), keptL k d.wait, d.dead⟩ : Dev) = refSure d k zs from rfl] at cp
  generalize refSure d k zs = rd at *
  clear hE hu hM p2 p3 hB hdd hv h1 h2 hz hd 
  generalize d.dead = dd at *
  go_enter Try.func35, Try.ntmps35
  go_wp2_with fail
  (with_reducible refine cc.mono ?_)
  rintro e w2 ⟨rfl, hb2⟩
  have b0 := bx0.below hb2
  have e0 := b0.c0
  have e1 := b0.c1
  have e2 := b0.c2
  have bx2 := bx1.below hb2
  have hB2 := hb.trans (hb2.mono hb.size)
  clear cc bx0 bx1 b0 hb2 hb
  go_wp2_with fail
  (with_reducible refine (cp _ hB2).mono ?_)
  rintro e w3 ⟨v3, rfl, hN, hb2⟩
  obtain ⟨A', n', C', B', m', D', rfl, hn', hm'⟩ := hN.form
  have b1 := bx2.below hb2
  have f0 := b1.c0
  have f1 := b1.c1
  have f2 := b1.c2
  have r0 := b1.fr (o := 0)
  have r1 := b1.fr (o := 1)
  have r2 := b1.fr (o := 2)
  have hN' := Lib.hid (hN.mono hB2.size)
  have hB3 := hB2.trans (hb2.mono hB2.size)
  clear cp hN hb2 hB2 hn' hm' e0 e1 e2 bx2
  go_wp2
  have d2 := (hN'.out.setBox3 b1 (.slice A' n' C') (.slice B' m' D') (.bool rd.dead)).1
  exact bodyPost_ret (v := .tuple #[.agg #[.slice A' n' C', .slice B' m' D', .bool rd.dead], .int .i64 0]) (by simp [results, Try.results35, go_sem, f0, f1, f2]) rfl ⟨_, rfl, d2, ((hB3.setCell hR _).setCell hR _).setCell hR _⟩
theorem reffua_calls (v : Value) (d : Dev) (k : Int) (a : Option Addr) (q c : Nat) (zs : List Int) (w : World) (h : DevV w v d) (hz : Ints .u8 w a q zs) :
    Calls Try.prog 35 #[v, .int .i64 k, .slice a q c] w (DevIs w (useE d k zs) (resD (useE d k zs) (refSure d k zs))) := by
  by_cases hE : useE d k zs = 0
  · rw [hE]
    exact reffua_yes v d k a q c zs w h hz hE
  · rw [show resD (useE d k zs) (refSure d k zs) = ⟨[], [], false⟩ from if_neg hE]
    exact reffua_no v d k a q c zs w h hz hE

set_option maxRecDepth 100000 in
set_option maxHeartbeats 4000000 in
theorem refflush_calls (v : Value) (d : Dev) (w : World) (h : DevV w v d) :
    Calls Try.prog 37 #[v] w (DevIs w (flushE d) (resD (flushE d) (refFlushed d))) := by
  have hv := h
  obtain ⟨A, n, C, hs, B, m, D, ht, rfl, h1, h2⟩ := h
  have hb : Below w.heap.size w ((w.alloc (.cells #[.slice A n C, .slice B m D, .bool d.dead] 25)).alloc (.cells #[.slice none 0 0, .slice none 0 0, .bool false] 25)) := ((Below.refl _ _).alloc (Nat.le_refl _) _).alloc (by simp) _
  have hR : w.heap.size ≤ w.heap.size + 1 := by omega
  have bx0 := (BoxD.new w (.slice A n C) (.slice B m D) (.bool d.dead)).alloc (.cells #[.slice none 0 0, .slice none 0 0, .bool false] 25)
  have bx1 := BoxD.new (w.alloc (.cells #[.slice A n C, .slice B m D, .bool d.dead] 25)) (.slice none 0 0) (.slice none 0 0) (.bool false)
  rw [World.size_alloc] at bx1
  have hd := fun W (hW : Below w.heap.size w W) => hv.below hW (Nat.le_refl _)
  have cc := refmay_calls _ d _ (hd _ hb)
  by_cases hM : MayD d
  · rw [decide_eq_true hM] at cc
    by_cases hdd : d.dead = true
    · have E : flushE d = 40 := by unfold flushE; rw [if_neg (fun q => q hM), if_pos hdd]
      rw [E, show resD 40 (refFlushed d) = ⟨[], [], false⟩ from rfl]
      rw [hdd] at bx0 bx1 hb cc ⊢
      clear hv h1 h2 hd hM E hdd
      go_enter Try.func37, Try.ntmps37
      go_wp2_with fail
      (with_reducible refine cc.mono ?_)
      rintro e w2 ⟨rfl, hb2⟩
      have b1 := bx1.below hb2
      have f0 := b1.c0
      have f1 := b1.c1
      have f2 := b1.c2
      have r0 := b1.fr (o := 0)
      have r1 := b1.fr (o := 1)
      have r2 := b1.fr (o := 2)
      have y1 := b1
      have b0 := bx0.below hb2
      have e0 := b0.c0
      have e1 := b0.c1
      have e2 := b0.c2
      clear cc bx0 bx1 b0
      have hB2 := hb.trans (hb2.mono hb.size)
      clear hb2 b1
      go_wp2
      exact bodyPost_ret (v := .tuple #[noDev, .int .i64 40]) (by simp [results, Try.results37, go_sem, f0, f1, f2, noDev]) rfl (out_none hB2 y1 hR)
    · have hdf : d.dead = false := by cases q : d.dead; rfl; exact absurd q hdd
      have E : flushE d = 0 := by unfold flushE; rw [if_neg (fun q => q hM), if_neg hdd]
      rw [E, show resD 0 (refFlushed d) = refFlushed d from rfl]
      have cp := fun W (hW : Below w.heap.size w W) => refflushed_calls _ d W (hd W hW) hM
      rw [show (⟨seenL d d.blocks.length, [], d.dead⟩ : Dev) = refFlushed d from rfl] at cp
      have hrd : (refFlushed d).dead = d.dead := rfl
      generalize refFlushed d = rd at *
      rw [hdf] at bx0 bx1 hb cc cp ⊢
      clear hv h1 h2 hd hM E hdd hdf hrd
      go_enter Try.func37, Try.ntmps37
      go_wp2_with fail
      (with_reducible refine cc.mono ?_)
      rintro e w2 ⟨rfl, hb2⟩
      have b0 := bx0.below hb2
      have e0 := b0.c0
      have e1 := b0.c1
      have e2 := b0.c2
      have bx2 := bx1.below hb2
      have hB2 := hb.trans (hb2.mono hb.size)
      clear cc bx0 bx1 b0 hb2 hb
      go_wp2_with fail
      (with_reducible refine (cp _ hB2).mono ?_)
      rintro e w3 ⟨v3, rfl, hN, hb2⟩
      obtain ⟨A', n', C', B', m', D', rfl, hn', hm'⟩ := hN.form
      have b1 := bx2.below hb2
      have f0 := b1.c0
      have f1 := b1.c1
      have f2 := b1.c2
      have r0 := b1.fr (o := 0)
      have r1 := b1.fr (o := 1)
      have r2 := b1.fr (o := 2)
      have hN' := Lib.hid (hN.mono hB2.size)
      have hB3 := hB2.trans (hb2.mono hB2.size)
      clear cp hN hb2 hB2 hn' hm' e0 e1 e2 bx2
      go_wp2
      have d2 := (hN'.out.setBox3 b1 (.slice A' n' C') (.slice B' m' D') (.bool rd.dead)).1
      exact bodyPost_ret (v := .tuple #[.agg #[.slice A' n' C', .slice B' m' D', .bool rd.dead], .int .i64 0]) (by simp [results, Try.results37, go_sem, f0, f1, f2]) rfl ⟨_, rfl, d2, ((hB3.setCell hR _).setCell hR _).setCell hR _⟩
  · rw [decide_eq_false hM] at cc
    have E : flushE d = 8 := by unfold flushE; rw [if_pos hM]
    rw [E, show resD 8 (refFlushed d) = ⟨[], [], false⟩ from rfl]
    clear hv h1 h2 hd hM E
    generalize d.dead = dd at *
    go_enter Try.func37, Try.ntmps37
    go_wp2_with fail
    (with_reducible refine cc.mono ?_)
    rintro e w2 ⟨rfl, hb2⟩
    have b1 := bx1.below hb2
    have f0 := b1.c0
    have f1 := b1.c1
    have f2 := b1.c2
    have r0 := b1.fr (o := 0)
    have r1 := b1.fr (o := 1)
    have r2 := b1.fr (o := 2)
    have y1 := b1
    clear cc bx0 bx1
    have hB2 := hb.trans (hb2.mono hb.size)
    clear hb2 b1
    go_wp2
    exact bodyPost_ret (v := .tuple #[noDev, .int .i64 8]) (by simp [results, Try.results37, go_sem, f0, f1, f2, noDev]) rfl (out_none hB2 y1 hR)
end Go.Proofs.Ytldgpkaecfgagaa
