/- piece's law: awake; PieceSplits: the walk. -/
import Derived.Test.YtjoikidnnhjogaaPcU
import Derived.Test.YtjoikidnnhjogaaCut
import Derived.Test.YtjoikidnnhjogaaApartW
namespace Go.Proofs.Ytjoikidnnhjogaa
open Go.RowKit
set_option linter.unusedVariables false
def awP : PC := ⟨1, 203, { data := #[97, 98, 99, 100] }⟩
theorem aw_pack : pcsS [awP] = { data := #[129, 203, 0, 1, 97, 98, 99, 100] } := by kernel_rfl
theorem readsP_one (w : World) (p : PC) (T : TypeId) : ReadsP (w.alloc (.cells #[.int .i64 p.count, .int .i64 p.kind, .string p.body] T)) (some ⟨w.heap.size, 0, none⟩) [p] := by
  refine .inr ⟨_, 0, rfl, fun i hi j v hv => ?_⟩
  obtain rfl : i = 0 := by simpa using hi
  have hj : j < 3 := (List.getElem?_eq_some_iff.1 hv).1
  rw [show 0 + (0 * 3 + j) = j from by omega, cell_of_row _ w.heap.size j _ _ (0, 0) (heap_alloc_new w _), ← Array.getElem?_toList]
  exact hv
namespace pieceSplits
end pieceSplits
end Go.Proofs.Ytjoikidnnhjogaa

