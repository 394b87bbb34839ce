/- Plain mathematics of flushes and writes on devices: what the laws of layer 4 lean on. -/
import Derived.Test.YtldgpkaecfgagaaDiskI
import Derived.Test.YtldgpkaecfgagaaDiskG
namespace Go.Proofs.Ytldgpkaecfgagaa
open Go.RowKit PolyM PackM FoldM DevM

theorem DevN.form3 {K : Nat} {w : World} {v : Value} {d : Dev} (h : DevN K w v d) (hd : d.dead = false) : ∃ A n C B m D, v = .agg #[.slice A n C, .slice B m D, .bool false] ∧ n = d.blocks.length := by
  obtain ⟨A, n, C, B, m, D, e, hn, _⟩ := h.form
  rw [hd] at e
  exact ⟨A, n, C, B, m, D, e, hn⟩
theorem getD_set' {l : List (List Int)} {i k : Nat} {v : List Int} (hk : k < l.length) : (l.set i v).getD k [] = if i = k then v else l.getD k [] := by
  rw [List.getD_eq_getElem?_getD, List.getD_eq_getElem?_getD, List.getElem?_set]
  by_cases e : i = k
  · subst e; rw [if_pos rfl, if_pos hk, if_pos rfl]; rfl
  · rw [if_neg e, if_neg e]
theorem flushL_getD (k : Int) (hk : 0 ≤ k) : ∀ (wt : List (Int × List Int)) (bl : List (List Int)), (∀ x ∈ wt, 0 ≤ x.1) → k.toNat < bl.length → (flushL bl wt).getD k.toNat [] = wt.foldl (fun acc x => if x.1 = k then x.2 else acc) (bl.getD k.toNat [])
  | [], bl, _, _ => rfl
  | x :: wt, bl, h, hl => by
    show (flushL (bl.set x.1.toNat x.2) wt).getD k.toNat [] = _
    have hx := h x (List.mem_cons_self ..)
    rw [flushL_getD k hk wt _ (fun y hy => h y (List.mem_cons_of_mem _ hy)) (by rw [List.length_set]; exact hl), List.foldl_cons, getD_set' hl]
    by_cases e : x.1 = k
    · rw [if_pos e, if_pos (by rw [e])]
    · rw [if_neg e, if_neg (by omega)]
theorem flushL_mem : ∀ (wt : List (Int × List Int)) (bl : List (List Int)) (b : List Int), b ∈ flushL bl wt → b ∈ bl ∨ ∃ x ∈ wt, b = x.2
  | [], bl, b, h => .inl h
  | x :: wt, bl, b, h => by
    rcases flushL_mem wt _ b h with q | ⟨y, hy, e⟩
    · rcases List.mem_or_eq_of_mem_set q with q | q
      · exact .inl q
      · exact .inr ⟨x, List.mem_cons_self .., q⟩
    · exact .inr ⟨y, List.mem_cons_of_mem _ hy, e⟩
/-- A device that was flushed. -/
def flushD (d : Dev) : Dev := ⟨flushL d.blocks d.wait, [], false⟩
theorem flushE_zero {d : Dev} (h : flushE d = 0) : MayD d ∧ d.dead = false := by
  unfold flushE at h
  by_cases p1 : MayD d
  · rw [if_neg (fun q => q p1)] at h
    by_cases p2 : d.dead = true
    · rw [if_pos p2] at h; omega
    · exact ⟨p1, by simpa using p2⟩
  · rw [if_pos p1] at h; omega
theorem flushE_of {d : Dev} (h : MayD d) (hd : d.dead = false) : flushE d = 0 := by
  unfold flushE
  rw [if_neg (fun q => q h), if_neg (by rw [hd]; simp)]
theorem flushE_ne {d : Dev} (h : flushE d ≠ 0) : (flushE d = 8 ∧ chk d = 8) ∨ (flushE d = 40 ∧ d.dead = true) := by
  unfold flushE at *
  by_cases p1 : MayD d
  · rw [if_neg (fun q => q p1)] at *
    by_cases p2 : d.dead = true
    · rw [if_pos p2]; exact .inr ⟨rfl, p2⟩
    · rw [if_neg p2] at h; exact absurd rfl h
  · rw [if_pos p1]; exact .inl ⟨rfl, chk_not p1⟩
theorem flush_may {d : Dev} (h : MayD d) (_hd : d.dead = false) : MayD (flushD d) := by
  obtain ⟨h1, h2, h3, h4, h5, h6⟩ := h
  unfold MayD flushD
  refine ⟨by rw [flushL_len]; exact h1, by rw [flushL_len]; exact h2, by simp, by simp, fun b hb => ⟨?_, by simp⟩, fun x hx => absurd hx List.not_mem_nil⟩
  rcases flushL_mem _ _ b hb with q | ⟨x, hx, e⟩
  · exact (h5 b q).1
  · rw [e]; exact (h6 x hx).2.2
theorem placeB_len {d d' : Dev} (h : d'.blocks.length = d.blocks.length) (k : Int) : placeB d' k = placeB d k := by unfold placeB; rw [h]
theorem useE_same {d d' : Dev} (h : MayD d) (h' : MayD d') (hl : d'.blocks.length = d.blocks.length) (hd : d'.dead = d.dead) (k : Int) (zs : List Int) : useE d' k zs = useE d k zs := by
  unfold useE
  rw [if_neg (c := ¬ MayD d') (fun q => q h'), if_neg (c := ¬ MayD d) (fun q => q h), placeB_len hl, hd]
theorem flush_lies {d : Dev} (h : MayD d) (k : Int) (hk : 0 ≤ k) (hl : k < d.blocks.length) : lies (flushD d) k = seen d k := by
  unfold lies seen flushD
  rw [flushL_getD k hk _ _ (fun x hx => (h.2.2.2.2.2 x hx).1) (by omega)]
theorem flush_res {d : Dev} (h : MayD d) (k : Int) : resB (useE d k []) (lies (flushD d) k) = resB (useE d k []) (seen d k) := by
  by_cases hE : useE d k [] = 0
  · obtain ⟨_, p2, p3, _⟩ := useE_zero hE
    rw [flush_lies h k p2 p3]
  · rw [resB_not hE, resB_not hE]
theorem flush_twice {d : Dev} : flushL (flushD d).blocks (flushD d).wait = (flushD d).blocks := rfl

/-- A device with a write that waits, and one with a block that lasts. -/
def putD (d : Dev) (k : Int) (zs : List Int) : Dev := ⟨d.blocks, d.wait ++ [(k, zs)], false⟩
def fuaD (d : Dev) (k : Int) (zs : List Int) : Dev := ⟨d.blocks.set k.toNat zs, d.wait.filter (keepB k), false⟩
theorem writeE_zero {d : Dev} {k : Int} {zs : List Int} (h : writeE d k zs = 0) : useE d k zs = 0 ∧ d.wait.length < 1024 := by
  unfold writeE at h
  by_cases p : useE d k zs = 0
  · rw [if_neg (fun q => q p)] at h
    by_cases p2 : d.wait.length = 1024
    · rw [if_pos p2] at h; omega
    · have := (useE_zero p).1.2.2.1
      exact ⟨p, by omega⟩
  · rw [if_pos p] at h; exact absurd h p
theorem writeE_of {d : Dev} {k : Int} {zs : List Int} (h : useE d k zs = 0) (h2 : d.wait.length < 1024) : writeE d k zs = 0 := by
  unfold writeE
  rw [if_neg (fun q => q h), if_neg (by omega)]
theorem writeE_i64 (d : Dev) (k : Int) (zs : List Int) : 0 ≤ writeE d k zs ∧ writeE d k zs ≤ 40 := by
  have := useE_i64 d k zs
  unfold writeE
  repeat' split
  all_goals omega
theorem write_may {d : Dev} {k : Int} {zs : List Int} (h : writeE d k zs = 0) : MayD (putD d k zs) := by
  obtain ⟨hu, hl⟩ := writeE_zero h
  obtain ⟨⟨h1, h2, h3, h4, h5, h6⟩, p2, p3, p4, p5⟩ := useE_zero hu
  refine ⟨h1, h2, by show (d.wait ++ _).length ≤ 1024; simp; omega, fun q => Bool.noConfusion q, fun b hb => ⟨(h5 b hb).1, fun q => Bool.noConfusion q⟩, fun x hx => ?_⟩
  rcases List.mem_append.1 hx with q | q
  · exact h6 x q
  · rw [List.mem_singleton.1 q]; exact ⟨p2, p3, p4⟩
theorem fua_may {d : Dev} {k : Int} {zs : List Int} (h : useE d k zs = 0) : MayD (fuaD d k zs) := by
  obtain ⟨⟨h1, h2, h3, h4, h5, h6⟩, p2, p3, p4, p5⟩ := useE_zero h
  refine ⟨by show 1 ≤ (d.blocks.set _ _).length; rw [List.length_set]; exact h1, by show (d.blocks.set _ _).length ≤ 256; rw [List.length_set]; exact h2, ?_, fun q => Bool.noConfusion q, fun b hb => ⟨?_, fun q => Bool.noConfusion q⟩, fun x hx => ?_⟩
  · have := List.length_filter_le (keepB k) d.wait
    show (d.wait.filter _).length ≤ 1024
    omega
  · rcases List.mem_or_eq_of_mem_set hb with q | q
    · exact (h5 b q).1
    · rw [q]; exact p4
  · have := h6 x (List.mem_filter.1 hx).1
    refine ⟨this.1, ?_, this.2.2⟩
    show x.1 < (((d.blocks.set k.toNat zs).length : Nat) : Int)
    rw [List.length_set]; exact this.2.1
theorem put_use {d : Dev} {k o : Int} {zs : List Int} (h : writeE d k zs = 0) : useE (putD d k zs) o [] = useE d o [] :=
  useE_same (useE_zero (writeE_zero h).1).1 (write_may h) rfl (useE_zero (writeE_zero h).1).2.2.2.2.symm o []
theorem fua_use {d : Dev} {k o : Int} {zs : List Int} (h : useE d k zs = 0) : useE (fuaD d k zs) o [] = useE d o [] :=
  useE_same (useE_zero h).1 (fua_may h) (List.length_set ..) (useE_zero h).2.2.2.2.symm o []
theorem put_lies {d : Dev} {k o : Int} {zs : List Int} (_h : writeE d k zs = 0) : lies (putD d k zs) o = lies d o := rfl
theorem put_seen {d : Dev} {k o : Int} {zs : List Int} (_h : writeE d k zs = 0) (hk : ¬ k = o) : seen (putD d k zs) o = seen d o := by
  unfold seen putD
  rw [List.foldl_append]
  show fullD (if k = o then zs else _) = _
  rw [if_neg hk]
theorem getD_other {l : List (List Int)} {i k : Nat} {v : List Int} (h : i ≠ k) : (l.set i v).getD k [] = l.getD k [] := by
  rw [List.getD_eq_getElem?_getD, List.getD_eq_getElem?_getD, List.getElem?_set, if_neg h]
theorem foldl_filter {k o : Int} (h : ¬ k = o) : ∀ (l : List (Int × List Int)) (b : List Int), (l.filter (keepB k)).foldl (fun acc x => if x.1 = o then x.2 else acc) b = l.foldl (fun acc x => if x.1 = o then x.2 else acc) b
  | [], _ => rfl
  | x :: l, b => by
    rw [List.filter_cons, List.foldl_cons]
    by_cases e : x.1 = k
    · rw [if_neg (by simp [keepB, e]), foldl_filter h l, if_neg (fun q => h (e.symm.trans q))]
    · rw [if_pos (by simp [keepB, e]), List.foldl_cons, foldl_filter h l]
theorem fua_lies {d : Dev} {k o : Int} {zs : List Int} (h : useE d k zs = 0) (hk : ¬ k = o) : resB (useE d o []) (lies (fuaD d k zs) o) = resB (useE d o []) (lies d o) := by
  by_cases hE : useE d o [] = 0
  · obtain ⟨_, p2, _⟩ := useE_zero h
    obtain ⟨_, q2, _⟩ := useE_zero hE
    unfold lies fuaD
    rw [getD_other (by omega)]
  · rw [resB_not hE, resB_not hE]
theorem fua_seen {d : Dev} {k o : Int} {zs : List Int} (h : useE d k zs = 0) (hk : ¬ k = o) : resB (useE d o []) (seen (fuaD d k zs) o) = resB (useE d o []) (seen d o) := by
  by_cases hE : useE d o [] = 0
  · obtain ⟨_, p2, _⟩ := useE_zero h
    obtain ⟨_, q2, _⟩ := useE_zero hE
    unfold seen fuaD
    rw [getD_other (by omega), foldl_filter hk]
  · rw [resB_not hE, resB_not hE]
end Go.Proofs.Ytldgpkaecfgagaa
