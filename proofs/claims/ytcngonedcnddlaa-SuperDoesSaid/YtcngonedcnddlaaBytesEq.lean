/- bytes.Equal. -/
import Derived.Test.YtcngonedcnddlaaDiskStr
import Derived.Laws.Rows
import Derived.RegionTactic
import Derived.Deep.QuietTactic
import Derived.BigQuiet
namespace Go.Proofs.Ytcngonedcnddlaa
open Go.RowKit PolyM PackM

theorem bytes_equal (a b : Option Addr) (n c m e : Nat) (xs ys : List Int) (w : World) (hx : Ints .u8 w a n xs) (hy : Ints .u8 w b m ys) :
    Calls Try.prog 22 #[.slice a n c, .slice b m e] w fun e w' => e = .returned (.bool (decide (xs = ys))) ∧ w = w' := by
  have t1 := hx.text (P := Try.prog) (c := c) Try.underlying22 Try.underlying5 Try.underlying9
  have t2 := hy.text (P := Try.prog) (c := e) Try.underlying22 Try.underlying5 Try.underlying9
  have bx := Lib.hid (bytes_of hx)
  have by_ := Lib.hid (bytes_of hy)
  clear hx hy
  go_enter Try.func22, Try.ntmps22
  go_wp2
  go_ret
  exact ⟨ret_bool (str_eq bx.out by_.out), rfl⟩
/-- A function that answers a struct that lies in a cell, and an error. -/
theorem results_cell_tmp {fn : Func} {p q : Tmp} {ty : TypeId} (h : fn.results = #[.cell p ty, .tmp q]) (tmps : Array Value) (w : World) (g : Nat) (t : TypeId) (cs : Array Value) (fr : Nat × Nat) (fs : Array Field)
    (hp : tmps.getD p undef = .pointer (some ⟨g, 0, none⟩)) (hg : w.heap[g]? = some (.cells cs t fr)) {P : Program}
    (hu : P.underlying ty = some (.struct fs)) (hi : (P.info? ty).map (·.size) = some cs.size) :
    (results fn tmps).run P w = .ok (.tuple #[.agg cs, tmps.getD q undef]) w := by
  have hp' : tmps[p]?.getD undef = .pointer (some ⟨g, 0, none⟩) := by simpa using hp
  simp [results, h, hp', asAddr, run_loadVar_row w g t ty cs fr _ hg hu rfl hi]
end Go.Proofs.Ytcngonedcnddlaa
