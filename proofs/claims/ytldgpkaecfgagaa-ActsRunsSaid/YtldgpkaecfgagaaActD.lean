/- The walks of package acts's deeds, and of do. -/
import Derived.Test.YtldgpkaecfgagaaActC
import Derived.Test.YtldgpkaecfgagaaDiskG
import Derived.Test.YtldgpkaecfgagaaDiskI
import Derived.Test.YtldgpkaecfgagaaDiskP
namespace Go.Proofs.Ytldgpkaecfgagaa
open Go.RowKit PolyM PackM FoldM DevM

/-- The boxes of an act and of a device, and the empty one of the answer. -/
structure Boxes (w W : World) (x : Act5) (A' : Option Addr) (L C' : Nat) (A : Option Addr) (n C : Nat) (B : Option Addr) (m D : Nat) (dd : Bool) : Prop where
  a : BoxA 109 W w.heap.size x (.slice A' L C')
  d : BoxD W (w.heap.size + 1) (.slice A n C) (.slice B m D) (.bool dd)
  r : BoxD W (w.heap.size + 1 + 1) (.slice none 0 0) (.slice none 0 0) (.bool false)
  b : Below w.heap.size w W
theorem Boxes.new (w : World) (x : Act5) (A' : Option Addr) (L C' : Nat) (A : Option Addr) (n C : Nat) (B : Option Addr) (m D : Nat) (dd : Bool) :
    Boxes w (((w.alloc (.cells #[.int .i64 x.disk, .int .u8 x.kind, .int .i64 x.at_, .slice A' L C'] 109)).alloc (.cells #[.slice A n C, .slice B m D, .bool dd] 25)).alloc (.cells #[.slice none 0 0, .slice none 0 0, .bool false] 25)) x A' L C' A n C B m D dd := by
  have q1 := BoxA.new 109 w x (.slice A' L C')
  have q2 := BoxD.new (w.alloc (.cells #[.int .i64 x.disk, .int .u8 x.kind, .int .i64 x.at_, .slice A' L C'] 109)) (.slice A n C) (.slice B m D) (.bool dd)
  have q3 := BoxD.new ((w.alloc (.cells #[.int .i64 x.disk, .int .u8 x.kind, .int .i64 x.at_, .slice A' L C'] 109)).alloc (.cells #[.slice A n C, .slice B m D, .bool dd] 25)) (.slice none 0 0) (.slice none 0 0) (.bool false)
  simp only [World.size_alloc] at q2 q3
  refine ⟨(q1.below ((Below.refl _ _).alloc (Nat.le_refl _) _)).below ((Below.refl _ _).alloc (Nat.le_refl _) _), q2.alloc _, q3, (((Below.refl _ _).alloc (Nat.le_refl _) _).alloc (by simp) _).alloc (by simp; omega) _⟩
theorem Boxes.below {w W W' : World} {x : Act5} {A' : Option Addr} {L C' : Nat} {A : Option Addr} {n C : Nat} {B : Option Addr} {m D : Nat} {dd : Bool} (h : Boxes w W x A' L C' A n C B m D dd) (hb : Below W.heap.size W W') : Boxes w W' x A' L C' A n C B m D dd :=
  ⟨h.a.below hb, h.d.below hb, h.r.below hb, h.b.trans (hb.mono h.b.size)⟩

/-- What a deed answers: an error and a device. -/
def deedE (x : Act5) (d : Dev) : Int := if x.kind = 1 then writeE d x.at_ x.data else if x.kind = 2 then useE d x.at_ x.data else flushE d
def deedD (x : Act5) (d : Dev) : Dev := if x.kind = 1 then putD d x.at_ x.data else if x.kind = 2 then fuaD d x.at_ x.data else flushD d
/-- What an act makes of its device; a dead one stays. -/
def doE (x : Act5) (d : Dev) : Int := if d.dead = true then 0 else deedE x d
def doD (x : Act5) (d : Dev) : Dev := if d.dead = true then d else deedD x d
-- DEEDS
set_option maxRecDepth 100000 in
set_option maxHeartbeats 4000000 in
theorem deed_write (x : Act5) (A' : Option Addr) (L C' : Nat) (v : Value) (d : Dev) (w : World) (hok : ActOk w A' L x) (h : DevV w v d) :
    Calls Try.prog 102 #[.agg #[.int .i64 x.disk, .int .u8 x.kind, .int .i64 x.at_, .slice A' L C'], v] w (DevIs w (writeE d x.at_ x.data) (resD (writeE d x.at_ x.data) (putD d x.at_ x.data))) := by
  have hv := h
  obtain ⟨A, n, C, hs, B, m, D, ht, rfl, h1, h2⟩ := h
  have bx := Boxes.new w x A' L C' A n C B m D d.dead
  have cc := write_calls _ d x.at_ A' L C' x.data _ (hv.below bx.b (Nat.le_refl _)) (hok.bytes.below bx.b (Nat.le_refl _))
  change Calls _ _ _ _ (DevIs _ (writeE d x.at_ x.data) (resD (writeE d x.at_ x.data) (putD d x.at_ x.data))) at cc
  generalize (resD (writeE d x.at_ x.data) (putD d x.at_ x.data) : Dev) = rd at *
  generalize (writeE d x.at_ x.data : Int) = er at *
  clear hv h1 h2 hok
  generalize d.dead = dd at *
  have a0 := bx.a.c0
  have a1 := bx.a.c1
  have a2 := bx.a.c2
  have a3 := bx.a.c3
  have d0 := bx.d.c0
  have d1 := bx.d.c1
  have d2 := bx.d.c2
  go_enter Try.func102, Try.ntmps102
  go_wp2_with fail
  (with_reducible refine cc.mono ?_)
  rintro e w2 ⟨v2, rfl, hN, hb2⟩
  obtain ⟨A2, n2, C2, B2, m2, D2, rfl, -, -⟩ := hN.form
  have b2 := bx.below hb2
  have yR := b2.r
  have hB2 := b2.b
  have f0 := yR.c0
  have f1 := yR.c1
  have f2 := yR.c2
  have r0 := yR.fr (o := 0)
  have r1 := yR.fr (o := 1)
  have r2 := yR.fr (o := 2)
  have hN' := Lib.hid (hN.mono bx.b.size)
  clear cc bx b2 a0 a1 a2 a3 d0 d1 d2 hN hb2
  go_wp2
  have q2 := (hN'.out.setBox3 yR (.slice A2 n2 C2) (.slice B2 m2 D2) (.bool rd.dead)).1
  exact bodyPost_ret (v := .tuple #[.agg #[.slice A2 n2 C2, .slice B2 m2 D2, .bool rd.dead], .int .i64 er]) (by simp [results, Try.results102, go_sem, f0, f1, f2]) rfl ⟨_, rfl, q2, below_set3 hB2 (by omega)⟩
set_option maxRecDepth 100000 in
set_option maxHeartbeats 4000000 in
theorem deed_fua (x : Act5) (A' : Option Addr) (L C' : Nat) (v : Value) (d : Dev) (w : World) (hok : ActOk w A' L x) (h : DevV w v d) :
    Calls Try.prog 103 #[.agg #[.int .i64 x.disk, .int .u8 x.kind, .int .i64 x.at_, .slice A' L C'], v] w (DevIs w (useE d x.at_ x.data) (resD (useE d x.at_ x.data) (fuaD d x.at_ x.data))) := by
  have hv := h
  obtain ⟨A, n, C, hs, B, m, D, ht, rfl, h1, h2⟩ := h
  have bx := Boxes.new w x A' L C' A n C B m D d.dead
  have cc := fua_calls _ d x.at_ A' L C' x.data _ (hv.below bx.b (Nat.le_refl _)) (hok.bytes.below bx.b (Nat.le_refl _))
  change Calls _ _ _ _ (DevIs _ (useE d x.at_ x.data) (resD (useE d x.at_ x.data) (fuaD d x.at_ x.data))) at cc
  generalize (resD (useE d x.at_ x.data) (fuaD d x.at_ x.data) : Dev) = rd at *
  generalize (useE d x.at_ x.data : Int) = er at *
  clear hv h1 h2 hok
  generalize d.dead = dd at *
  have a0 := bx.a.c0
  have a1 := bx.a.c1
  have a2 := bx.a.c2
  have a3 := bx.a.c3
  have d0 := bx.d.c0
  have d1 := bx.d.c1
  have d2 := bx.d.c2
  go_enter Try.func103, Try.ntmps103
  go_wp2_with fail
  (with_reducible refine cc.mono ?_)
  rintro e w2 ⟨v2, rfl, hN, hb2⟩
  obtain ⟨A2, n2, C2, B2, m2, D2, rfl, -, -⟩ := hN.form
  have b2 := bx.below hb2
  have yR := b2.r
  have hB2 := b2.b
  have f0 := yR.c0
  have f1 := yR.c1
  have f2 := yR.c2
  have r0 := yR.fr (o := 0)
  have r1 := yR.fr (o := 1)
  have r2 := yR.fr (o := 2)
  have hN' := Lib.hid (hN.mono bx.b.size)
  clear cc bx b2 a0 a1 a2 a3 d0 d1 d2 hN hb2
  go_wp2
  have q2 := (hN'.out.setBox3 yR (.slice A2 n2 C2) (.slice B2 m2 D2) (.bool rd.dead)).1
  exact bodyPost_ret (v := .tuple #[.agg #[.slice A2 n2 C2, .slice B2 m2 D2, .bool rd.dead], .int .i64 er]) (by simp [results, Try.results103, go_sem, f0, f1, f2]) rfl ⟨_, rfl, q2, below_set3 hB2 (by omega)⟩
set_option maxRecDepth 100000 in
set_option maxHeartbeats 4000000 in
theorem deed_flush (x : Act5) (A' : Option Addr) (L C' : Nat) (v : Value) (d : Dev) (w : World) (_hok : ActOk w A' L x) (h : DevV w v d) :
    Calls Try.prog 104 #[.agg #[.int .i64 x.disk, .int .u8 x.kind, .int .i64 x.at_, .slice A' L C'], v] w (DevIs w (flushE d) (resD (flushE d) (flushD d))) := by
  have hv := h
  obtain ⟨A, n, C, hs, B, m, D, ht, rfl, h1, h2⟩ := h
  have bx := Boxes.new w x A' L C' A n C B m D d.dead
  have cc := flush_calls _ d _ (hv.below bx.b (Nat.le_refl _))
  change Calls _ _ _ _ (DevIs _ (flushE d) (resD (flushE d) (flushD d))) at cc
  generalize (resD (flushE d) (flushD d) : Dev) = rd at *
  generalize (flushE d : Int) = er at *
  clear hv h1 h2
  generalize d.dead = dd at *
  have a0 := bx.a.c0
  have a1 := bx.a.c1
  have a2 := bx.a.c2
  have a3 := bx.a.c3
  have d0 := bx.d.c0
  have d1 := bx.d.c1
  have d2 := bx.d.c2
  go_enter Try.func104, Try.ntmps104
  go_wp2_with fail
  (with_reducible refine cc.mono ?_)
  rintro e w2 ⟨v2, rfl, hN, hb2⟩
  obtain ⟨A2, n2, C2, B2, m2, D2, rfl, -, -⟩ := hN.form
  have b2 := bx.below hb2
  have yR := b2.r
  have hB2 := b2.b
  have f0 := yR.c0
  have f1 := yR.c1
  have f2 := yR.c2
  have r0 := yR.fr (o := 0)
  have r1 := yR.fr (o := 1)
  have r2 := yR.fr (o := 2)
  have hN' := Lib.hid (hN.mono bx.b.size)
  clear cc bx b2 a0 a1 a2 a3 d0 d1 d2 hN hb2
  go_wp2
  have q2 := (hN'.out.setBox3 yR (.slice A2 n2 C2) (.slice B2 m2 D2) (.bool rd.dead)).1
  exact bodyPost_ret (v := .tuple #[.agg #[.slice A2 n2 C2, .slice B2 m2 D2, .bool rd.dead], .int .i64 er]) (by simp [results, Try.results104, go_sem, f0, f1, f2]) rfl ⟨_, rfl, q2, below_set3 hB2 (by omega)⟩

/-- do's answer: of one that lives a new device, of a dead one itself. -/
def DoIs (w : World) (v : Value) (x : Act5) (d : Dev) (e : Ending) (w' : World) : Prop :=
  (d.dead = true ∧ e = .returned (.tuple #[v, .int .i64 0]) ∧ Below w.heap.size w w') ∨ (d.dead = false ∧ DevIs w (deedE x d) (resD (deedE x d) (deedD x d)) e w')
end Go.Proofs.Ytldgpkaecfgagaa
