/- A map whose keys are pointers to boxes of a call's own: made, filled in whatever order, ranged over in whatever order. -/
import Derived.Test.YtcngonedcnddlaaLabelBox
import Derived.Maps.RangeWalk
import Derived.LaidEql
import Derived.Carry
namespace Go.Proofs.Ytcngonedcnddlaa
open Go.RowKit Go.ChangeMaps
set_option linter.unusedVariables false

/-- Nothing but block m has turned. -/
theorem grown_setBlock {W : World} {m : Nat} {o : Obj} : W.grownBy (setBlock W m o) (some m) :=
  ⟨rfl, rfl, rfl, by simp [setBlock], fun i _ hi => by
    have : m ≠ i := fun e => hi (by rw [e])
    simp [setBlock, this]⟩
theorem heap_setBlock_here {W : World} {m : Nat} {o o' : Obj} (h : W.heap[m]? = some o) : (setBlock W m o').heap[m]? = some o' := by
  have : m < W.heap.size := (Array.getElem?_eq_some_iff.1 h).1
  simp [setBlock, this]
theorem BlkAt.turned {w w' : World} {g : Nat} {cs : Array Value} {t : TypeId} {row : Option Nat} (h : BlkAt w g cs t) (hg : w.grownBy w' row) (hne : some g ≠ row) : BlkAt w' g cs t := by
  have := h.lt
  unfold BlkAt at *
  rw [hg.block g this hne]
  exact h
/-- A pointer that is none of the keys is not found. -/
theorem run_find_ptr {P : Program} (w : World) {k el : TypeId} {info : TypeInfo} (hk : P.underlying k = some (.pointer el)) (hi : P.info? el = some info) (hs : info.size ≠ 0) {a : Addr} {ca : Array Value} {ta : TypeId} (ha : w.heap[a.block]? = some (.cells ca ta (0, 0))) :
    ∀ (es : List MapEntry) (i : Nat), (∀ x ∈ es, ∃ (b : Addr) (cb : Array Value) (tb : TypeId), x.key = .pointer (some b) ∧ a ≠ b ∧ w.heap[b.block]? = some (.cells cb tb (0, 0))) → (Instr.findAsking k (.pointer (some a)) es i).run P w = .ok none w
  | [], _, _ => by simp [Instr.findAsking]
  | x :: es, i, h => by
    obtain ⟨b, cb, tb, e, hne, hb⟩ := h x (by simp)
    have ih := run_find_ptr w hk hi hs ha es (i + 1) fun y hy => h y (by simp [hy])
    have hq : (Op.equal k (.pointer (some a)) x.key).run P w = .ok false w := by
      rw [e]
      have hd : ∀ d : Nat, (Op.equalIn (d + 1) k (.pointer (some a)) (.pointer (some b))).run P w = .ok false w := fun d => by simp [Op.equalIn, run_underlying hk, sizeOf, typeInfo, hi, hs, run_sameAddr_other w hne ha hb]
      exact hd 9999
    simp [Instr.findAsking, hq, ih]
theorem findNow_ptr {el : TypeId} (a : Addr) : ∀ (es : List MapEntry) (i : Nat), Instr.findNow (.pointer el) (.pointer (some a)) es i = some none ∨ Instr.findNow (.pointer el) (.pointer (some a)) es i = none
  | [], _ => .inl rfl
  | x :: es, i => by
    right
    simp [Instr.findNow, Instr.sameNow]
theorem run_update_ptr {P : Program} (w : World) {t k e el : TypeId} {info : TypeInfo} (ht : P.underlying t = some (.map k e)) (hk : P.underlying k = some (.pointer el)) (hi : P.info? el = some info) (hs : info.size ≠ 0) {m : Nat} {es : Array MapEntry} {clock : Nat} (hm : w.heap[m]? = some (.map es clock))
    {a : Addr} {ca : Array Value} {ta : TypeId} (ha : w.heap[a.block]? = some (.cells ca ta (0, 0))) (h : ∀ x ∈ es.toList, ∃ (b : Addr) (cb : Array Value) (tb : TypeId), x.key = .pointer (some b) ∧ a ≠ b ∧ w.heap[b.block]? = some (.cells cb tb (0, 0))) (val : Value) :
    (Instr.mapUpdate t (.map (some m)) (.pointer (some a)) val).run P w = .ok () (setBlock w m (.map (es.push ⟨.pointer (some a), val, clock⟩) (clock + 1))) := by
  have hf := run_find_ptr w hk hi hs ha es.toList 0 h
  have hc : (Instr.checkKey false 10000 k (.pointer (some a))).run P w = .ok () w := by
    have hd : ∀ d : Nat, (Instr.checkKey false (d + 1) k (.pointer (some a))).run P w = .ok () w := fun d => by simp [Instr.checkKey, run_underlying hk]
    exact hd 9999
  have hq : (Instr.findKey k (.pointer (some a)) es.toList).run P w = .ok none w := by
    rcases findNow_ptr (el := el) a es.toList 0 with q | q
    · simp [Instr.findKey, run_underlying hk, q]
    · simp [Instr.findKey, run_underlying hk, q, hf]
  simp [Instr.mapUpdate, run_underlying ht, MapKept.run_getObj_map hm, hc, hq, MapKept.run_setObj_map _ hm, Result.andThen, setBlock]

/-- Block m is a map of some of n rows: the i-th key points to block q i, its value is v i; 'has i': it is in. -/
def PMap (W : World) (m n : Nat) (q : Nat → Nat) (v : Nat → Value) (has : Nat → Bool) : Prop :=
  ∃ es clock, W.heap[m]? = some (.map es clock) ∧ (∀ e ∈ es.toList, e.born < clock ∧ ∃ i, i < n ∧ has i = true ∧ e.key = .pointer (some ⟨q i, 0, none⟩) ∧ e.val = v i) ∧ (es.toList.map (·.born)).Nodup ∧ ∀ i, i < n → has i = true → ∃ e ∈ es.toList, e.key = .pointer (some ⟨q i, 0, none⟩)
theorem PMap.lt {W : World} {m n : Nat} {q : Nat → Nat} {v : Nat → Value} {has : Nat → Bool} (h : PMap W m n q v has) : m < W.heap.size := by
  obtain ⟨es, clock, hm, _⟩ := h
  exact (Array.getElem?_eq_some_iff.1 hm).1
theorem PMap.made (w : World) (n : Nat) (q : Nat → Nat) (v : Nat → Value) : PMap (w.alloc (.map #[] 0)) w.heap.size n q v (fun _ => false) :=
  ⟨#[], 0, heap_alloc_new _ _, by simp, by simp, by simp⟩
theorem PMap.turned {W W' : World} {m n : Nat} {q : Nat → Nat} {v : Nat → Value} {has : Nat → Bool} {row : Option Nat} (h : PMap W m n q v has) (hg : W.grownBy W' row) (hne : some m ≠ row) : PMap W' m n q v has := by
  have hl := h.lt
  obtain ⟨es, clock, hm, h2⟩ := h
  exact ⟨es, clock, (hg.block m hl hne).trans hm, h2⟩
/-- One more row is put in. -/
theorem PMap.put {P : Program} {W : World} {t k e el : TypeId} {info : TypeInfo} (ht : P.underlying t = some (.map k e)) (hk : P.underlying k = some (.pointer el)) (hi : P.info? el = some info) (hs : info.size ≠ 0) {m n : Nat} {q : Nat → Nat} {v : Nat → Value} {has : Nat → Bool} (h : PMap W m n q v has)
    {j : Nat} (hj : j < n) (hn : has j = false) (hq : ∀ i, i < n → i ≠ j → q i ≠ q j) (hb : ∀ i, i < n → ∃ c t, W.heap[q i]? = some (.cells c t (0, 0))) :
    ∃ W', (Instr.mapUpdate t (.map (some m)) (.pointer (some ⟨q j, 0, none⟩)) (v j)).run P W = .ok () W' ∧ PMap W' m n q v (fun i => has i || i == j) ∧ W.grownBy W' (some m) ∧ W'.heap.size = W.heap.size := by
  obtain ⟨es, clock, hm, h1, h2, h3⟩ := h
  obtain ⟨ca, ta, ha⟩ := hb j hj
  refine ⟨_, run_update_ptr W ht hk hi hs hm (a := ⟨q j, 0, none⟩) ha (fun x hx => ?_) (v j), ⟨_, _, heap_setBlock_here hm, fun x hx => ?_, ?_, fun i hi hh => ?_⟩, grown_setBlock, by simp [setBlock]⟩
  · obtain ⟨_, i, hi, hh, hk, _⟩ := h1 x hx
    obtain ⟨cb, tb, hb⟩ := hb i hi
    refine ⟨⟨q i, 0, none⟩, cb, tb, hk, fun e => ?_, hb⟩
    have hij : i ≠ j := fun e => by rw [e, hn] at hh; cases hh
    exact hq i hi hij (by injection e with e1; exact e1.symm)
  · simp only [Array.toList_push, List.mem_append, List.mem_singleton] at hx
    rcases hx with hx | rfl
    · obtain ⟨b, i, hi, hh, hk, hv⟩ := h1 x hx
      exact ⟨by omega, i, hi, by simp [hh], hk, hv⟩
    · exact ⟨by simp, j, hj, by simp, rfl, rfl⟩
  · simp only [Array.toList_push, List.map_append, List.map_cons, List.map_nil]
    refine List.nodup_append.2 ⟨h2, by simp, fun a ha b hb => ?_⟩
    obtain ⟨x, hx, rfl⟩ := List.mem_map.1 ha
    have := (h1 x hx).1
    simp only [List.mem_singleton] at hb
    subst hb
    omega
  · simp only [Array.toList_push, List.mem_append, List.mem_singleton]
    by_cases hij : i = j
    · subst hij
      exact ⟨_, .inr rfl, rfl⟩
    · have : has i = true := by simpa [hij] using hh
      obtain ⟨x, hx, hk⟩ := h3 i hi this
      exact ⟨x, .inl hx, hk⟩
/-- All rows are in. -/
theorem PMap.full {W : World} {m n : Nat} {q : Nat → Nat} {v : Nat → Value} {has : Nat → Bool} (h : PMap W m n q v has) (hh : ∀ i, i < n → has i = true) : PMap W m n q v (fun _ => true) := by
  obtain ⟨es, clock, hm, h1, h2, h3⟩ := h
  exact ⟨es, clock, hm, fun e he => by obtain ⟨b, i, hi, _, r⟩ := h1 e he; exact ⟨b, i, hi, rfl, r⟩, h2, fun i hi _ => h3 i hi (hh i hi)⟩

/-- A range over such a map under way, its iterator in block r: 'done i': the i-th row has come; at most cnt are to come. -/
def PIter (W : World) (m r n : Nat) (q : Nat → Nat) (v : Nat → Value) (done : Nat → Bool) (cnt : Nat) : Prop :=
  ∃ es clock since seen c0, W.heap[m]? = some (.map es clock) ∧ (∀ e ∈ es.toList, e.born < since ∧ ∃ i, i < n ∧ e.key = .pointer (some ⟨q i, 0, none⟩) ∧ e.val = v i ∧ (seen.contains e.born = true → done i = true)) ∧ (es.toList.map (·.born)).Nodup ∧ (∀ i, i < n → ∃ e ∈ es.toList, e.key = .pointer (some ⟨q i, 0, none⟩)) ∧
    W.heap[r]? = some (.mapIter (some m) since seen c0) ∧ since ≤ c0 ∧ since ≤ clock ∧ (leftOf es seen).size = cnt
theorem PIter.lt {W : World} {m r n cnt : Nat} {q : Nat → Nat} {v : Nat → Value} {done : Nat → Bool} (h : PIter W m r n q v done cnt) : m < W.heap.size ∧ r < W.heap.size ∧ r ≠ m := by
  obtain ⟨es, clock, since, seen, c0, hm, _, _, _, hr, _⟩ := h
  refine ⟨(Array.getElem?_eq_some_iff.1 hm).1, (Array.getElem?_eq_some_iff.1 hr).1, fun e => ?_⟩
  rw [e, hm] at hr
  cases hr
theorem PIter.turned {W W' : World} {m r n cnt : Nat} {q : Nat → Nat} {v : Nat → Value} {done : Nat → Bool} {row : Option Nat} (h : PIter W m r n q v done cnt) (hg : W.grownBy W' row) (h1 : some m ≠ row) (h2 : some r ≠ row) : PIter W' m r n q v done cnt := by
  obtain ⟨lm, lr, _⟩ := h.lt
  obtain ⟨es, clock, since, seen, c0, hm, a, b, c, hr, d⟩ := h
  exact ⟨es, clock, since, seen, c0, (hg.block m lm h1).trans hm, a, b, c, (hg.block r lr h2).trans hr, d⟩
theorem PIter.below {W W' : World} {m r n cnt B : Nat} {q : Nat → Nat} {v : Nat → Value} {done : Nat → Bool} (h : PIter W m r n q v done cnt) (hb : Below B W W') (hB : W.heap.size ≤ B) : PIter W' m r n q v done cnt :=
  h.turned (row := none) ⟨hb.os, hb.tape, hb.output, hb.size, fun j hj _ => hb.block j (by omega)⟩ (by simp) (by simp)
theorem PIter.setCell {W : World} {m r n cnt : Nat} {q : Nat → Nat} {v : Nat → Value} {done : Nat → Bool} (h : PIter W m r n q v done cnt) {p : Addr} (h1 : p.block ≠ m) (h2 : p.block ≠ r) (u : Value) : PIter (W.setCell p u) m r n q v done cnt := by
  obtain ⟨es, clock, since, seen, c0, hm, a, b, c, hr, d⟩ := h
  exact ⟨es, clock, since, seen, c0, by rw [Below.heap_setCell _ _ _ _ (fun e => h1 e.symm)]; exact hm, a, b, c, by rw [Below.heap_setCell _ _ _ _ (fun e => h2 e.symm)]; exact hr, d⟩
/-- 'range m'. -/
theorem PMap.range {P : Program} {W : World} {t k e : TypeId} (ht : P.underlying t = some (.map k e)) {m n : Nat} {q : Nat → Nat} {v : Nat → Value} (h : PMap W m n q v (fun _ => true)) :
    ∃ W' cnt, (Instr.range t (.map (some m))).run P W = .ok (.pointer (some ⟨W.heap.size, 0, none⟩)) W' ∧ PIter W' m W.heap.size n q v (fun _ => false) cnt ∧ W.grownBy W' none ∧ W'.heap.size = W.heap.size + 1 := by
  have hl := h.lt
  obtain ⟨es, clock, hm, h1, h2, h3⟩ := h
  refine ⟨_, _, run_range_map W t k e m es clock ht hm, ⟨es, clock, clock, #[], clock, (heap_alloc_old W _ hl).trans hm, fun x hx => ?_, h2, fun i hi => h3 i hi rfl, heap_alloc_new _ _, Nat.le_refl _, Nat.le_refl _, rfl⟩, World.grownBy_alloc W _ none, by simp⟩
  obtain ⟨b, i, hi, _, hk, hv⟩ := h1 x hx
  exact ⟨b, i, hi, hk, hv, by simp⟩
/-- Nothing is left: all rows have come. -/
theorem PIter.all {W : World} {m r n : Nat} {q : Nat → Nat} {v : Nat → Value} {done : Nat → Bool} (h : PIter W m r n q v done 0) (hq : ∀ i j, i < n → j < n → q i = q j → i = j) : ∀ i, i < n → done i = true := by
  obtain ⟨es, clock, since, seen, c0, hm, a, b, c, hr, d1, d2, d3⟩ := h
  intro i hi
  obtain ⟨x, hx, hk⟩ := c i hi
  obtain ⟨_, j, hj, hk2, _, hd⟩ := a x hx
  have : q i = q j := by
    rw [hk] at hk2
    injection hk2 with e1
    injection e1 with e2
    injection e2
  rw [hq i j hi hj this]
  exact hd (all_seen es seen d3 x hx)
/-- THE STEP. -/
theorem PIter.next {P : Program} {W : World} {m r n cnt : Nat} {q : Nat → Nat} {v : Nat → Value} {done : Nat → Bool} (h : PIter W m r n q v done cnt) (ty : TypeId) :
    (cnt = 0 ∧ (Instr.next (.pointer (some ⟨r, 0, none⟩)) false ty).run P W = .ok (.tuple #[.bool false]) W) ∨
    ∃ i W' cnt', i < n ∧ (Instr.next (.pointer (some ⟨r, 0, none⟩)) false ty).run P W = .ok (.tuple #[.bool true, .pointer (some ⟨q i, 0, none⟩), v i]) W' ∧ PIter W' m r n q v (fun j => done j || j == i) cnt' ∧ cnt' < cnt ∧ W.grownBy W' (some r) ∧ W'.heap.size = W.heap.size ∧
      (Instr.entry (.pointer (some ⟨r, 0, none⟩))).run P W' = .ok (.tuple #[.pointer (some ⟨q i, 0, none⟩), v i]) W' := by
  have hne := h.lt.2.2
  obtain ⟨es, clock, since, seen, c0, hm, a, b, c, hr, d1, d2, d3⟩ := h
  rcases run_next_at (P := P) W ty r m since c0 seen es clock hr hm (fun x hx => (a x hx).1) d1 with ⟨h0, hrun⟩ | ⟨e, he, w1, hal, hrun⟩
  · exact .inl ⟨d3.symm.trans h0, hrun⟩
  · obtain ⟨hem, hes⟩ := mem_left he
    obtain ⟨_, i, hi, hk, hv, _⟩ := a e hem
    have hr1 : w1.heap[r]? = some (.mapIter (some m) since seen c0) := by rcases hal with rfl | rfl <;> exact hr
    have hm1 : w1.heap[m]? = some (.map es clock) := by rcases hal with rfl | rfl <;> exact hm
    have hg : w1.grownBy (setBlock w1 r (.mapIter (some m) since (seen.push e.born) clock)) (some r) := grown_setBlock
    have hr2 := heap_setBlock_here (o' := .mapIter (some m) since (seen.push e.born) clock) hr1
    have hm2 : (setBlock w1 r (.mapIter (some m) since (seen.push e.born) clock)).heap[m]? = some (.map es clock) := by
      rw [hg.block m (Array.getElem?_eq_some_iff.1 hm1).1 (fun e1 => hne (by injection e1 with e2; exact e2.symm))]
      exact hm1
    have hen := run_entry_at (P := P) _ r m since seen es clock e hr2 hm2 hem b
    rw [hk, hv] at hrun hen
    refine .inr ⟨i, _, _, hi, hrun, ⟨es, clock, since, seen.push e.born, clock, hm2, fun x hx => ?_, b, c, hr2, d2, d2, rfl⟩, by rw [← d3]; exact left_shrinks es seen e he, ?_, ?_, hen⟩
    · obtain ⟨hb, j, hj, hkj, hvj, hdj⟩ := a x hx
      by_cases hxe : x.born = e.born
      · have : x = e := born_inj b hx hem hxe
        subst this
        exact ⟨hb, i, hi, hk, hv, fun _ => by simp⟩
      · refine ⟨hb, j, hj, hkj, hvj, fun hs => ?_⟩
        rw [contains_push] at hs
        have : (x.born == e.born) = false := by simpa using hxe
        rw [this, Bool.or_false] at hs
        simp [hdj hs]
    · rcases hal with rfl | rfl
      · exact hg
      · exact ⟨rfl, rfl, rfl, hg.size, fun j hj hne => hg.block j hj hne⟩
    · rcases hal with rfl | rfl <;> simp [setBlock]
section
variable {P : Program} (w : World) {ops : Array Oper} {rest : List Oper} {o : Oper} {a : Act} {Q : Exit → Act → World → Prop}
theorem wpList_next_ptr (hg : o.guard = none) (it : Operand) (hop : o.op = Op.next it false) {m r n cnt : Nat} {q : Nat → Nat} {v : Nat → Value} {done : Nat → Bool} (hit : a.eval it = .pointer (some ⟨r, 0, none⟩)) (h : PIter w m r n q v done cnt)
    (hDone : cnt = 0 → wpList P ops Q rest (a.put o.dst (.tuple #[.bool false])) w)
    (hMore : ∀ (i : Nat) (w' : World) (cnt' : Nat), i < n → PIter w' m r n q v (fun j => done j || j == i) cnt' → cnt' < cnt → w.grownBy w' (some r) → w'.heap.size = w.heap.size → (Instr.entry (.pointer (some ⟨r, 0, none⟩))).run P w' = .ok (.tuple #[.pointer (some ⟨q i, 0, none⟩), v i]) w' → wpList P ops Q rest (a.put o.dst (.tuple #[.bool true, .pointer (some ⟨q i, 0, none⟩), v i])) w') :
    wpList P ops Q (o :: rest) a w := by
  refine wpList_plain hg fun K' hK' => ?_
  unfold Oper.wp
  rcases h.next (P := P) o.type with ⟨h0, hrun⟩ | ⟨i, w', cnt', hi, hrun, hp, hlt, hgr, hsz, hen⟩
  · simp [execOp, hop, hit, hrun, Result.andThen]
    exact hK' _ _ (hDone h0)
  · simp [execOp, hop, hit, hrun, Result.andThen]
    exact hK' _ _ (hMore i w' cnt' hi hp hlt hgr hsz hen)
theorem wp_insert_run {K : Act → World → Prop} (t : TypeId) (x y z : Operand) (ho : o.op = .insert t x y z) {m k u : Value} (hx : a.eval x = m) (hy : a.eval y = k) (hz : a.eval z = u) {w' : World} (hrun : (Instr.mapUpdate t m k u).run P w = .ok () w') (h : K (a.put o.dst undef) w') : o.wp P a w K Q := by
  unfold Oper.wp
  simp [execOp, ho, hx, hy, hz, hrun, Result.andThen]
  exact h
theorem wp_range_run {K : Act → World → Prop} (t : TypeId) (x : Operand) (ho : o.op = .range t x) {m k : Value} (hx : a.eval x = m) {w' : World} (hrun : (Instr.range t m).run P w = .ok k w') (h : K (a.put o.dst k) w') : o.wp P a w K Q := by
  unfold Oper.wp
  simp [execOp, ho, hx, hrun, Result.andThen]
  exact h
end
end Go.Proofs.Ytcngonedcnddlaa
