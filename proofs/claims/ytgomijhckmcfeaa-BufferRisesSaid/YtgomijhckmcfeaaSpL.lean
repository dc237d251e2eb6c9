/- split: Lacks. -/
import Derived.Test.YtgomijhckmcfeaaSpE
import Derived.Test.YtgomijhckmcfeaaReB
namespace Go.Proofs.Ytgomijhckmcfeaa
open Go.RowKit
set_option linter.unusedVariables false
set_option linter.unusedSimpArgs false
/-- The Indexes, below k, of the parts that aren't there. -/
def spLk (P : List (Option ByteArray)) (k : Nat) : List Int := ((List.range k).filter (fun i => (P[i]?).join.isNone)).map (fun (i : Nat) => (i : Int))
theorem spLk_succ (P : List (Option ByteArray)) (k : Nat) (o : Option ByteArray) (h : P[k]? = some o) : spLk P (k + 1) = spLk P k ++ (if o.isNone then [(k : Int)] else []) := by
  unfold spLk
  rw [List.range_succ, List.filter_append, List.map_append]
  congr 1
  rw [List.filter_cons, h]
  cases o <;> rfl
theorem spLk_len (P : List (Option ByteArray)) (k : Nat) : (spLk P k).length ≤ k := by
  unfold spLk
  rw [List.length_map]
  have := List.length_filter_le (fun i => (P[i]?).join.isNone) (List.range k)
  rw [List.length_range] at this
  exact this
end Go.Proofs.Ytgomijhckmcfeaa
