/- The walks of package disk: Lasting, New, Kill. -/
import Derived.Test.YtldgpkaecfgagaaDiskB
namespace Go.Proofs.Ytldgpkaecfgagaa
open Go.RowKit PolyM PackM FoldM DevM

theorem pad_full {zs : List Int} (h : Blk zs) : pad zs = fullD zs := by
  unfold fullD pad
  rcases h with q | q
  · rw [if_pos q, List.eq_nil_of_length_eq_zero q]; rfl
  · rw [if_neg (by omega), q]; simp
theorem placeB_iff {d : Dev} {k : Int} : placeB d k = true ↔ 0 ≤ k ∧ k < d.blocks.length := by unfold placeB; exact decide_eq_true_iff
/-- Where a use is well. -/
theorem useE_zero {d : Dev} {k : Int} {zs : List Int} (h : useE d k zs = 0) : MayD d ∧ 0 ≤ k ∧ k < d.blocks.length ∧ Blk zs ∧ d.dead = false := by
  unfold useE at h
  by_cases p1 : MayD d
  · rw [if_neg (fun q => q p1)] at h
    by_cases p2 : placeB d k = false
    · rw [if_pos p2] at h; omega
    · rw [if_neg p2] at h
      by_cases p3 : Blk zs
      · rw [if_neg (fun q => q p3)] at h
        by_cases p4 : d.dead = true
        · rw [if_pos p4] at h; omega
        · have := placeB_iff.1 (by simpa using p2)
          exact ⟨p1, this.1, this.2, p3, by simpa using p4⟩
      · rw [if_pos p3] at h; omega
  · rw [if_pos p1] at h; omega
theorem useE_of {d : Dev} {k : Int} {zs : List Int} (h : MayD d) (h0 : 0 ≤ k) (h1 : k < d.blocks.length) (hz : Blk zs) (hd : d.dead = false) : useE d k zs = 0 := by
  unfold useE
  rw [if_neg (fun q => q h), if_neg (by rw [placeB_iff.2 ⟨h0, h1⟩]; simp), if_neg (fun q => q hz), if_neg (by rw [hd]; simp)]
theorem useE_i64 (d : Dev) (k : Int) (zs : List Int) : 0 ≤ useE d k zs ∧ useE d k zs ≤ 40 := by
  unfold useE
  repeat' split
  all_goals omega

/-- What lasts at a place, of a device that may be used there. -/
def lies (d : Dev) (k : Int) : List Int := fullD (d.blocks.getD k.toNat [])
/-- What is read there. -/
def seen (d : Dev) (k : Int) : List Int := fullD (d.wait.foldl (fun acc x => if x.1 = k then x.2 else acc) (d.blocks.getD k.toNat []))
def resB (e : Int) (l : List Int) : List Int := if e = 0 then l else []
theorem resB_zero (l : List Int) : resB 0 l = l := rfl
theorem resB_not {e : Int} (h : e ≠ 0) (l : List Int) : resB e l = [] := if_neg h
/-- An answer of bytes and an error. -/
def BytesIs (w : World) (er : Int) (l : List Int) (e : Ending) (w' : World) : Prop :=
  ∃ A L C, e = .returned (.tuple #[.slice A L C, .int .i64 er]) ∧ Fresh w.heap.size w' (.slice A L C) l ∧ Below w.heap.size w w'

theorem blk_mem {d : Dev} {b : List Int} (h : MayD d) (hb : b ∈ d.blocks) : Blk b := (h.2.2.2.2.1 b hb).1
theorem nil_ints (k : IntKind) (w : World) (_c : Nat) : Ints k w none 0 [] := ⟨rfl, by omega, by simp, .inl rfl⟩
theorem blk_nil : Blk [] := .inl rfl
theorem err_ne {e : Int} (h : e ≠ 0) : (e != 0) = true := by simp [h]

set_option maxRecDepth 100000 in
set_option maxHeartbeats 2000000 in
theorem lasting_calls (v : Value) (d : Dev) (k : Int) (w : World) (h : DevV w v d) :
    Calls Try.prog 25 #[v, .int .i64 k] w (BytesIs w (useE d k []) (resB (useE d k []) (lies d k))) := by
  have hv := h
  obtain ⟨A, n, C, hs, B, m, D, ht, rfl, h1, h2⟩ := h
  obtain ⟨c0, c1, c2, hb⟩ := boxed_dev (w := w) (x := .slice A n C) (y := .slice B m D) (z := .bool d.dead) (t := 25)
  have hsz : w.heap.size < (w.alloc (.cells #[.slice A n C, .slice B m D, .bool d.dead] 25)).heap.size := by simp
  have cc := mayuse_calls _ d k none 0 0 [] _ (hv.below hb (Nat.le_refl _)) (nil_ints .u8 _ 0)
  have hi := useE_i64 d k []
  by_cases hE : useE d k [] = 0
  · obtain ⟨p1, p2, p3, _, p4⟩ := useE_zero hE
    have hl1 := h1.len
    have hm1 := h1.max
    have hkn : k < (n : Int) := by omega
    obtain ⟨b, off, A1, L, C1, zs, rfl, hlt, _, hls, hcell, hz⟩ := h1.at (i := k.toNat) (by omega)
    have hzb : Blk zs := blk_mem p1 (List.mem_of_getElem? hls)
    have hL : L ≤ 128 := by have := hz.len; rcases hzb with q | q <;> omega
    have F : Hid (pad zs = lies d k) := by
      refine Lib.hid ?_
      rw [pad_full hzb]
      unfold lies
      rw [List.getD_eq_getElem?_getD, hls]; rfl
    rw [hE, resB_zero]
    rw [hE] at cc
    have hlf := hz
    clear hls hE hl1 p1 p4 hv h1 h2 hi hzb
    go_enter Try.func25, Try.ntmps25
    go_wp2_with fail
    (with_reducible refine cc.mono ?_)
    rintro e w2 ⟨rfl, hb2⟩
    have e0 := (hb2.cell (p := ⟨w.heap.size, 0, none⟩) hsz).trans c0
    have hb3 := hb.trans (hb2.mono hb.size)
    have e5 := (hb3.cell (p := ⟨b, off + k.toNat, none⟩) hlt).trans hcell
    have cw := whole_calls A1 L C1 zs w2 (hlf.below hb3 (Nat.le_refl _)) hL
    clear cc c0 c1 c2 hb hb2 hsz hcell hlf
    go_wp2_with fail
    (with_reducible refine cw.mono ?_)
    rintro e w3 ⟨g, hg, rfl, hgc, hb4⟩
    have hF := Lib.hid (Fresh.ofCells (K := w.heap.size) (n := 128) (C := 128) hgc (pad_len (by rw [hz.len]; exact hL)) (by omega) (pad_bytes (bytes_of hz)) (Nat.le_trans hb3.size hg))
    rw [F.out] at hF
    clear cw hgc hz
    go_wp2
    go_ret2
    exact ⟨_, _, _, rfl, hF.out, hb3.trans (hb4.mono hb3.size)⟩
  · rw [resB_not hE]
    have hne := err_ne hE
    generalize useE d k [] = er at *
    clear hE hv h1 h2
    go_enter Try.func25, Try.ntmps25
    go_wp2_with fail
    (with_reducible refine cc.mono ?_)
    rintro e w2 ⟨rfl, hb2⟩
    have hb3 := hb.trans (hb2.mono hb.size)
    clear cc c0 c1 c2 hb hb2 hsz
    go_wp2
    go_ret2
    exact ⟨_, _, _, rfl, Fresh.nil _ _, hb3⟩
end Go.Proofs.Ytldgpkaecfgagaa
