/- What steps do to what is told; the walk of the laws' own helper gone. -/
import Derived.Test.YtedgjnmjpgmffaaDiskOps
import Derived.Test.YtedgjnmjpgmffaaDiskM
import Derived.Test.YtedgjnmjpgmffaaDiskS
namespace Go.Proofs.Ytedgjnmjpgmffaa
open Go.RowKit PolyM PackM FoldM DevM

theorem fullD_fullL (x : Int) : fullD (fullL x) = fullL x := by
  unfold fullD
  rw [if_neg (by rw [fullL_len]; omega)]
theorem blk_fullL (x : Int) : Blk (fullL x) := .inr (fullL_len x)
theorem getD_set4 {l : List Int} {i k : Nat} {v : Int} (hi : i < l.length) : (l.set i v).getD k 0 = if i = k then v else l.getD k 0 := by
  rw [List.getD_eq_getElem?_getD, List.getD_eq_getElem?_getD, List.getElem?_set]
  by_cases e : i = k
  · rw [if_pos e, if_pos hi, if_pos e]; rfl
  · rw [if_neg e, if_neg e]
theorem set_in {l : List Int} {i : Nat} {v : Int} (h : ∀ z ∈ l, 0 ≤ z ∧ z ≤ 255) (hv : 0 ≤ v ∧ v ≤ 255) : ∀ z ∈ l.set i v, 0 ≤ z ∧ z ≤ 255 := by
  intro z hz
  rcases List.mem_or_eq_of_mem_set hz with q | q
  · exact h z q
  · rw [q]; exact hv
theorem Told.use {d : Dev} {now sure : List Int} {i k : Nat} (h : Told d now sure i) (hk : k < 4) (x : Int) : useE d k (fullL x) = 0 :=
  useE_of h.1 (by omega) (by rw [h.2.2.1]; omega) (blk_fullL x) h.2.1
theorem Told.use0 {d : Dev} {now sure : List Int} {i k : Nat} (h : Told d now sure i) (hk : k < 4) : useE d k [] = 0 :=
  useE_of h.1 (by omega) (by rw [h.2.2.1]; omega) blk_nil h.2.1
theorem Told.put {d : Dev} {now sure : List Int} {i k : Nat} (h : Told d now sure i) (hk : k < 4) {x : Int} (hx : 0 ≤ x ∧ x ≤ 255) (hi : i < 1000) : writeE d k (fullL x) = 0 ∧ Told (putD d k (fullL x)) (now.set k x) sure (i + 1) := by
  have hu := h.use hk x
  have hw : writeE d k (fullL x) = 0 := writeE_of hu (by have := h.2.2.2.1; omega)
  obtain ⟨h1, h2, h3, h4, h5, h6, h7, h8, h9⟩ := h
  refine ⟨hw, write_may hw, rfl, h3, by show (d.wait ++ _).length ≤ i + 1; simp; omega, by rw [List.length_set]; exact h5, h6, set_in h7 hx, h8, fun j hj => ?_⟩
  by_cases e : k = j
  · subst e
    exact ⟨by rw [put_seen_self, fullD_fullL, getD_set4 (by omega), if_pos rfl], (h9 k hj).2⟩
  · exact ⟨by rw [put_seen hw (by omega), getD_set4 (by omega), if_neg e]; exact (h9 j hj).1, (h9 j hj).2⟩
theorem Told.fua {d : Dev} {now sure : List Int} {i k : Nat} (h : Told d now sure i) (hk : k < 4) {x : Int} (hx : 0 ≤ x ∧ x ≤ 255) : useE d k (fullL x) = 0 ∧ Told (fuaD d k (fullL x)) (now.set k x) (sure.set k x) (i + 1) := by
  have hu := h.use hk x
  obtain ⟨h1, h2, h3, h4, h5, h6, h7, h8, h9⟩ := h
  refine ⟨hu, fua_may hu, rfl, by show (d.blocks.set _ _).length = 4; rw [List.length_set]; exact h3, by have := List.length_filter_le (keepB k) d.wait; show (d.wait.filter _).length ≤ i + 1; omega, by rw [List.length_set]; exact h5, by rw [List.length_set]; exact h6, set_in h7 hx, set_in h8 hx, fun j hj => ?_⟩
  by_cases e : k = j
  · subst e
    exact ⟨by rw [fua_seen_self hu, fullD_fullL, getD_set4 (by omega), if_pos rfl], by rw [fua_lies_self hu, fullD_fullL, getD_set4 (by omega), if_pos rfl]⟩
  · exact ⟨by rw [fua_seen_other hu (by omega) (by omega), getD_set4 (by omega), if_neg e]; exact (h9 j hj).1, by rw [fua_lies_other hu (by omega) (by omega), getD_set4 (by omega), if_neg e]; exact (h9 j hj).2⟩
theorem Told.flush {d : Dev} {now sure : List Int} {i : Nat} (h : Told d now sure i) : flushE d = 0 ∧ Told (flushD d) now now (i + 1) := by
  obtain ⟨h1, h2, h3, h4, h5, h6, h7, h8, h9⟩ := h
  refine ⟨flushE_of h1 h2, flush_may h1 h2, rfl, by show (flushL _ _).length = 4; rw [flushL_len]; exact h3, by show 0 ≤ i + 1; omega, h5, h5, h7, h7, fun j hj => ?_⟩
  have e := flush_lies h1 (j : Int) (by omega) (by rw [h3]; omega)
  exact ⟨by rw [flush_seen, e]; exact (h9 j hj).1, by rw [e]; exact (h9 j hj).1⟩
theorem Told.start : Told ⟨List.replicate 4 [], [], false⟩ [0, 0, 0, 0] [0, 0, 0, 0] 0 := by
  refine ⟨by decide +kernel, rfl, rfl, Nat.le_refl _, rfl, rfl, by decide, by decide, fun k hk => ?_⟩
  have : k = 0 ∨ k = 1 ∨ k = 2 ∨ k = 3 := by omega
  rcases this with rfl | rfl | rfl | rfl <;> exact ⟨by decide +kernel, by decide +kernel⟩

/-- A device that is dead. -/
def deadD (n : Nat) : Dev := ⟨List.replicate n [], [], true⟩
theorem dead_may {n : Nat} (h1 : 1 ≤ n) (h2 : n ≤ 256) : MayD (deadD n) := by
  refine ⟨by simp [deadD]; omega, by simp [deadD]; omega, by simp [deadD], fun _ => rfl, fun b hb => ?_, fun x hx => absurd hx List.not_mem_nil⟩
  rw [List.eq_of_mem_replicate hb]
  exact ⟨blk_nil, fun _ => rfl⟩
theorem dead_use {n : Nat} (h1 : 1 ≤ n) (h2 : n ≤ 256) : useE (deadD n) 0 [] = 40 := by
  unfold useE
  rw [if_neg (fun q => q (dead_may h1 h2)), if_neg (by rw [placeB_iff.2 ⟨by omega, by simp [deadD]; omega⟩]; simp), if_neg (fun q => q blk_nil)]
  exact if_pos rfl
theorem dead_write {n : Nat} (h1 : 1 ≤ n) (h2 : n ≤ 256) : writeE (deadD n) 0 [] = 40 := by
  unfold writeE
  rw [dead_use h1 h2, if_pos (by omega)]
theorem dead_flush {n : Nat} (h1 : 1 ≤ n) (h2 : n ≤ 256) : flushE (deadD n) = 40 := by
  unfold flushE
  rw [if_neg (fun q => q (dead_may h1 h2))]
  exact if_pos rfl
theorem DevN.form5 {K : Nat} {w : World} {v : Value} {d : Dev} (h : DevN K w v d) (hd : d.dead = true) : ∃ A n C B m D, v = .agg #[.slice A n C, .slice B m D, .bool true] ∧ n = d.blocks.length := by
  obtain ⟨A, n, C, B, m, D, e, hn, _⟩ := h.form
  rw [hd] at e
  exact ⟨A, n, C, B, m, D, e, hn⟩
set_option maxHeartbeats 8000000 in
set_option maxRecDepth 100000 in
theorem gone_calls (w : World) (v : Value) (d : Dev) (hv : DevV w v d) (hM : MayD d) :
    Calls Try.prog 35 #[v] w fun e w' => e = .returned (.bool true) ∧ Below w.heap.size w w' := by
  have hv0 := hv
  obtain ⟨A, n, C, hs, B, m, D, ht, rfl, h1, _⟩ := hv
  have hn := h1.len
  have hB : Below w.heap.size w (w.alloc (.cells #[.slice A n C, .slice B m D, .bool d.dead] 25)) := (Below.refl _ _).alloc (Nat.le_refl _) _
  have x0 := BoxD.new w (.slice A n C) (.slice B m D) (.bool d.dead)
  have ck := fun W (hW : Below w.heap.size w W) => kill_calls _ d W (hv0.below hW (Nat.le_refl _))
  have n1 : 1 ≤ n := by have := hM.1; omega
  have n2 : n ≤ 256 := by have := hM.2.1; omega
  rw [chk_may hM, if_pos hM, hn, show (⟨List.replicate n [], [], true⟩ : Dev) = deadD n from rfl] at ck
  have cw := fun W u (h : DevV W u (deadD n)) => write_calls u (deadD n) 0 none 0 0 [] W h (nil_ints .u8 W 0)
  rw [dead_write n1 n2] at cw
  have cu := fun W u (h : DevV W u (deadD n)) => fua_calls u (deadD n) 0 none 0 0 [] W h (nil_ints .u8 W 0)
  rw [dead_use n1 n2] at cu
  have cf := fun W u (h : DevV W u (deadD n)) => flush_calls u (deadD n) W h
  rw [dead_flush n1 n2] at cf
  have cl := fun W u (h : DevV W u (deadD n)) => lasting_calls u (deadD n) 0 W h
  rw [dead_use n1 n2] at cl
  have cg := fun W u (h : DevV W u (deadD n)) => kill_calls u (deadD n) W h
  rw [chk_may (dead_may n1 n2), if_pos (dead_may n1 n2), show (deadD n).blocks.length = n by simp [deadD], show (⟨List.replicate n [], [], true⟩ : Dev) = deadD n from rfl] at cg
  have cs := fun W u v (h : DevV W u (deadD n)) (h' : DevV W v (deadD n)) => same_calls u v (deadD n) (deadD n) W h h'
  rw [decide_eq_true (SameD.refl (deadD n))] at cs
  have hdn : (deadD n).blocks.length = n := by simp [deadD]
  have HD := Lib.hid (show (deadD n).dead = true from rfl)
  have HN := Lib.hid hdn
  generalize deadD n = dn at *
  generalize d.dead = dd at *
  clear hv0 h1 hn hM hdn
  go_enter Try.func35, Try.ntmps35
  have c0_x0 := x0.c0
  have c1_x0 := x0.c1
  have c2_x0 := x0.c2
  go_wp2_with fail
  (with_reducible refine (ck _ hB).mono ?_)
  rintro e w1 ⟨v_xk, rfl, hN_xk, hb1⟩
  obtain ⟨A_xk, n_xk, C_xk, B_xk, m_xk, D_xk, rfl, hm_xk⟩ := hN_xk.form5 HD.out
  have hz_k : (n_xk : Int) = (n : Int) := by rw [hm_xk, HN.out]
  have HZ := Lib.hid hz_k
  clear hz_k
  replace hb1 := hb1.alloc hb1.size (.cells #[.slice A_xk n_xk C_xk, .slice B_xk m_xk D_xk, .bool true] 25)
  have xk := InBox.new hN_xk (Eq.symm HD.out)
  replace x0 := x0.below hb1
  replace hB := hB.trans (hb1.mono hB.size)
  clear c0_x0 c1_x0 c2_x0
  clear hN_xk hm_xk hb1 ck
  obtain ⟨c0_xk, c1_xk, c2_xk, -, d_xk, -⟩ := xk.cells
  go_wp2_with fail
  (with_reducible refine (cw _ _ d_xk).mono ?_)
  rintro e w2 ⟨v_x1, rfl, hN_x1, hb2⟩
  obtain ⟨A_x1, n_x1, C_x1, B_x1, m_x1, D_x1, rfl, hm_x1⟩ := hN_x1.form2 rfl
  replace hb2 := hb2.alloc hb2.size (.cells #[.slice A_x1 n_x1 C_x1, .slice B_x1 m_x1 D_x1, .bool false] 25)
  have x1 := InBox.new hN_x1 (Eq.symm rfl)
  replace x0 := x0.below hb2
  replace xk := xk.below hb2
  replace hB := hB.trans (hb2.mono hB.size)
  clear c0_xk c1_xk c2_xk d_xk
  clear hN_x1 hm_x1 hb2 cw
  clear x1
  obtain ⟨c0_xk, c1_xk, c2_xk, -, d_xk, -⟩ := xk.cells
  go_wp2_with fail
  (with_reducible refine (cu _ _ d_xk).mono ?_)
  rintro e w3 ⟨v_x2, rfl, hN_x2, hb3⟩
  obtain ⟨A_x2, n_x2, C_x2, B_x2, m_x2, D_x2, rfl, hm_x2⟩ := hN_x2.form2 rfl
  replace hb3 := hb3.alloc hb3.size (.cells #[.slice A_x2 n_x2 C_x2, .slice B_x2 m_x2 D_x2, .bool false] 25)
  have x2 := InBox.new hN_x2 (Eq.symm rfl)
  replace x0 := x0.below hb3
  replace xk := xk.below hb3
  replace hB := hB.trans (hb3.mono hB.size)
  clear c0_xk c1_xk c2_xk d_xk
  clear hN_x2 hm_x2 hb3 cu
  clear x2
  obtain ⟨c0_xk, c1_xk, c2_xk, -, d_xk, -⟩ := xk.cells
  go_wp2_with fail
  (with_reducible refine (cf _ _ d_xk).mono ?_)
  rintro e w4 ⟨v_x3, rfl, hN_x3, hb4⟩
  obtain ⟨A_x3, n_x3, C_x3, B_x3, m_x3, D_x3, rfl, hm_x3⟩ := hN_x3.form2 rfl
  replace hb4 := hb4.alloc hb4.size (.cells #[.slice A_x3 n_x3 C_x3, .slice B_x3 m_x3 D_x3, .bool false] 25)
  have x3 := InBox.new hN_x3 (Eq.symm rfl)
  replace x0 := x0.below hb4
  replace xk := xk.below hb4
  replace hB := hB.trans (hb4.mono hB.size)
  clear c0_xk c1_xk c2_xk d_xk
  clear hN_x3 hm_x3 hb4 cf
  clear x3
  obtain ⟨c0_xk, c1_xk, c2_xk, -, d_xk, -⟩ := xk.cells
  go_wp2_with fail
  (with_reducible refine (cl _ _ d_xk).mono ?_)
  rintro e w5 ⟨A_r1, L_r1, C_r1, rfl, r1, hb5⟩
  replace x0 := x0.below hb5
  replace xk := xk.below hb5
  replace hB := hB.trans (hb5.mono hB.size)
  clear c0_xk c1_xk c2_xk d_xk
  replace r1 := Lib.hid r1
  clear hb5 cl
  clear r1
  obtain ⟨c0_xk, c1_xk, c2_xk, -, d_xk, -⟩ := xk.cells
  go_wp2_with fail
  (with_reducible refine (cg _ _ d_xk).mono ?_)
  rintro e w6 ⟨v_xa, rfl, hN_xa, hb6⟩
  obtain ⟨A_xa, n_xa, C_xa, B_xa, m_xa, D_xa, rfl, hm_xa⟩ := hN_xa.form5 HD.out
  replace hb6 := hb6.alloc hb6.size (.cells #[.slice A_xa n_xa C_xa, .slice B_xa m_xa D_xa, .bool true] 25)
  have xa := InBox.new hN_xa (Eq.symm HD.out)
  replace x0 := x0.below hb6
  replace xk := xk.below hb6
  replace hB := hB.trans (hb6.mono hB.size)
  clear c0_xk c1_xk c2_xk d_xk
  clear hN_xa hm_xa hb6 cg
  obtain ⟨c0_xk, c1_xk, c2_xk, -, d_xk, -⟩ := xk.cells
  obtain ⟨c0_xa, c1_xa, c2_xa, -, d_xa, -⟩ := xa.cells
  go_wp2_with fail
  (with_reducible refine (cs _ _ _ d_xk d_xa).mono ?_)
  rintro e w7 ⟨rfl, hb7⟩
  replace x0 := x0.below hb7
  replace xk := xk.below hb7
  replace xa := xa.below hb7
  replace hB := hB.trans (hb7.mono hB.size)
  clear c0_xk c1_xk c2_xk d_xk c0_xa c1_xa c2_xa d_xa
  clear hb7 cs
  obtain ⟨c0_xk, c1_xk, c2_xk, -, d_xk, -⟩ := xk.cells
  have c0_x0 := x0.c0
  have c1_x0 := x0.c1
  have c2_x0 := x0.c2
  have hz := HZ.out
  go_wp2
  go_ret
  exact ⟨rfl, hB⟩
end Go.Proofs.Ytedgjnmjpgmffaa
