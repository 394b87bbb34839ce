/- What a power cut makes of devices, as lists. -/
import Derived.Test.YtldgpkaecfgagaaActH
import Derived.Test.YtldgpkaecfgagaaRefEA
namespace Go.Proofs.Ytldgpkaecfgagaa
open Go.RowKit PolyM PackM FoldM DevM

theorem kept_again (d : Dev) (bs cs : List Bool) : keptD (keptD d bs) cs = keptD d bs := rfl
theorem crash_again : ∀ (ds : List Dev) (bs cs : List Bool), crashL (crashL ds bs) cs = crashL ds bs
  | [], _, _ => rfl
  | d :: ds, bs, cs => by
    simp only [crashL]
    rw [kept_again, crash_again ds]
theorem many_crash : ∀ (ds : List Dev) (bs : List Bool), manyL (crashL ds bs) = 0
  | [], _ => rfl
  | d :: ds, bs => by
    have h := many_crash ds (bs.drop d.wait.length)
    simp only [crashL, manyL, List.map_cons, List.sum_cons] at h ⊢
    rw [h]; rfl
theorem crash_mem : ∀ (ds : List Dev) (bs : List Bool), (∀ d ∈ ds, MayD d) → ∀ x ∈ crashL ds bs, MayD x
  | [], _, _, x, hx => absurd hx List.not_mem_nil
  | d :: ds, bs, h, x, hx => by
    simp only [crashL, List.mem_cons] at hx
    rcases hx with rfl | hx
    · exact keptD_may (h d List.mem_cons_self) _
    · exact crash_mem ds _ (fun y hy => h y (List.mem_cons_of_mem _ hy)) x hx
theorem crash_mayL {ds : List Dev} (h : MayL ds) (bs : List Bool) : MayL (crashL ds bs) := ⟨by rw [crashL_len]; exact h.1, by rw [crashL_len]; exact h.2.1, crash_mem ds bs h.2.2⟩
theorem crash_at : ∀ (ds : List Dev) (bs : List Bool) (i : Nat) (d : Dev), ds[i]? = some d → (crashL ds bs)[i]? = some (keptD d ((bs.drop (manyL (ds.take i))).take d.wait.length))
  | [], _, i, d, h => by simp at h
  | e :: ds, bs, 0, d, h => by
    obtain rfl := Option.some.inj h
    rfl
  | e :: ds, bs, i + 1, d, h => by
    have := crash_at ds (bs.drop e.wait.length) i d (by simpa using h)
    simp only [crashL, List.getElem?_cons_succ, List.take_succ_cons]
    rw [this, List.drop_drop]
    simp [manyL]
theorem kept_getD {p : Nat} (l : List ((Int × List Int) × Bool)) : ∀ (bl : List (List Int)), (∀ q ∈ l, 0 ≤ q.1.1) → p < bl.length → (keptB bl l).getD p [] = bl.getD p [] ∨ ∃ q ∈ l, q.1.1 = (p : Int) ∧ (keptB bl l).getD p [] = q.1.2 := by
  induction l with
  | nil => intro bl _ _; exact .inl rfl
  | cons q l ih =>
    intro bl h0 hp
    have hq := h0 q List.mem_cons_self
    show (keptB (if q.2 = true then bl.set q.1.1.toNat q.1.2 else bl) l).getD p [] = _ ∨ ∃ r ∈ q :: l, r.1.1 = (p : Int) ∧ (keptB (if q.2 = true then bl.set q.1.1.toNat q.1.2 else bl) l).getD p [] = r.1.2
    by_cases hb : q.2 = true
    · rw [if_pos hb]
      rcases ih (bl.set q.1.1.toNat q.1.2) (fun r hr => h0 r (List.mem_cons_of_mem _ hr)) (by rw [List.length_set]; exact hp) with e | ⟨r, hr, e1, e2⟩
      · rw [e, getD_set' hp]
        by_cases hqp : q.1.1.toNat = p
        · rw [if_pos hqp]
          exact .inr ⟨q, List.mem_cons_self, by omega, rfl⟩
        · rw [if_neg hqp]; exact .inl rfl
      · exact .inr ⟨r, List.mem_cons_of_mem _ hr, e1, e2⟩
    · rw [if_neg hb]
      rcases ih bl (fun r hr => h0 r (List.mem_cons_of_mem _ hr)) hp with e | ⟨r, hr, e1, e2⟩
      · exact .inl e
      · exact .inr ⟨r, List.mem_cons_of_mem _ hr, e1, e2⟩
theorem kept_lies {d : Dev} (h : MayD d) (bs : List Bool) {p : Nat} (hp : p < d.blocks.length) : lies (keptD d bs) p = lies d p ∨ ∃ x ∈ d.wait, x.1 = (p : Int) ∧ fullD x.2 = lies (keptD d bs) p := by
  have h0 : ∀ q ∈ d.wait.zip bs, 0 ≤ q.1.1 := fun q hq => (h.2.2.2.2.2 _ (List.of_mem_zip (show (q.1, q.2) ∈ _ from hq)).1).1
  rcases kept_getD (d.wait.zip bs) d.blocks h0 hp with e | ⟨q, hq, e1, e2⟩
  · left
    show fullD ((keptB d.blocks (d.wait.zip bs)).getD p []) = fullD (d.blocks.getD p [])
    rw [e]
  · right
    refine ⟨q.1, (List.of_mem_zip (show (q.1, q.2) ∈ _ from hq)).1, e1, ?_⟩
    show _ = fullD ((keptB d.blocks (d.wait.zip bs)).getD p [])
    rw [e2]
theorem kept_true (bl : List (List Int)) : ∀ (wt : List (Int × List Int)), keptB bl (wt.zip (List.replicate wt.length true)) = flushL bl wt := by
  intro wt
  induction wt generalizing bl with
  | nil => rfl
  | cons x wt ih =>
    show keptB (bl.set x.1.toNat x.2) (wt.zip (List.replicate wt.length true)) = flushL (bl.set x.1.toNat x.2) wt
    exact ih _
theorem kept_false (bl : List (List Int)) : ∀ (wt : List (Int × List Int)), keptB bl (wt.zip (List.replicate wt.length false)) = bl := by
  intro wt
  induction wt generalizing bl with
  | nil => rfl
  | cons x wt ih => exact ih _
theorem all_true {d : Dev} (h : MayD d) {p : Int} (hp : 0 ≤ p) (hl : p < d.blocks.length) : lies (keptD d (List.replicate d.wait.length true)) p = seen d p := by
  rw [← flush_lies h p hp hl]
  show fullD ((keptB d.blocks (d.wait.zip (List.replicate d.wait.length true))).getD p.toNat []) = fullD ((flushL d.blocks d.wait).getD p.toNat [])
  rw [kept_true]
theorem none_true {d : Dev} (p : Int) : lies (keptD d (List.replicate d.wait.length false)) p = lies d p := by
  show fullD ((keptB d.blocks (d.wait.zip (List.replicate d.wait.length false))).getD p.toNat []) = _
  rw [kept_false]; rfl
theorem crash_rep (b : Bool) {ds : List Dev} {N i : Nat} {d : Dev} (hi : ds[i]? = some d) (hN : manyL ds ≤ N) : (crashL ds (List.replicate N b))[i]? = some (keptD d (List.replicate d.wait.length b)) := by
  rw [crash_at ds _ i d hi, List.drop_replicate, List.take_replicate]
  have h1 : manyL (ds.take i) + d.wait.length ≤ manyL ds := by
    have e := manyL_app (ds.take (i + 1)) (ds.drop (i + 1))
    rw [List.take_append_drop, take_snocL hi, manyL_snoc] at e
    omega
  rw [show min d.wait.length (N - manyL (ds.take i)) = d.wait.length by omega]
theorem kept_use {d : Dev} (h : MayD d) (bs : List Bool) (k : Int) : useE (keptD d bs) k [] = useE d k [] := useE_same h (keptD_may h bs) (keptB_len _ _) rfl k []
theorem crashE_nil {ds : List Dev} (h : MayL ds) : crashE ds [] = 0 := by
  unfold crashE
  rw [if_neg (fun q => q h), if_neg (by simp)]
theorem crashR_nil {ds : List Dev} (h : MayL ds) : crashR ds [] = crashL ds (List.replicate (manyL ds) false) := by
  unfold crashR
  rw [if_pos (crashE_nil h)]
  simp
end Go.Proofs.Ytldgpkaecfgagaa
