/- nack: the document's Numbers. -/
import Derived.Test.YtagimjaojpdfiaaNkS
namespace Go.Proofs.Ytagimjaojpdfiaa
open Go.RowKit
set_option linter.unusedVariables false
/-- Numbers are added, each once. -/
def addAll (acc l : List Int) : List Int := l.foldl addNew acc
theorem addAll_snoc (acc l : List Int) (x : Int) : addAll acc (l ++ [x]) = addNew (addAll acc l) x := by unfold addAll; rw [List.foldl_append]; rfl
theorem addAll_append (acc l m : List Int) : addAll acc (l ++ m) = addAll (addAll acc l) m := by unfold addAll; rw [List.foldl_append]
theorem addAll_dist (l : List Int) : addAll [] l = dist l := rfl
theorem addAll_len (acc l : List Int) : (addAll acc l).length ≤ acc.length + l.length := fold_len l acc
/-- How far the document's Numbers is: behind the pairs of a list, and k bits of one more. -/
def nmAt (l : List (Int × Nat)) (p : Int × Nat) (k : Nat) : List Int := addAll (dist (catN l)) (nums p.1 p.2 k)
theorem nmAt_zero (l : List (Int × Nat)) (p : Int × Nat) : nmAt l p 0 = addNew (dist (catN l)) p.1 := rfl
theorem nmAt_succ (l : List (Int × Nat)) (p : Int × Nat) (k : Nat) : nmAt l p (k + 1) = if p.2 / 2 ^ k % 2 = 1 then addNew (nmAt l p k) (nx p.1 k) else nmAt l p k := by
  unfold nmAt
  rw [nums]
  split
  · rw [addAll_snoc]
  · rw [List.append_nil]
theorem nmAt_end (l : List (Int × Nat)) (p : Int × Nat) : nmAt l p 16 = dist (catN (l ++ [p])) := by
  unfold nmAt
  rw [catN_snoc, ← addAll_dist, ← addAll_dist, addAll_append]
theorem nmAt_len (l : List (Int × Nat)) (p : Int × Nat) (k : Nat) : (nmAt l p k).length ≤ 17 * l.length + (k + 1) := by
  have h1 := addAll_len (dist (catN l)) (nums p.1 p.2 k)
  have h2 := dist_len (catN l)
  have h3 := catN_len l
  have h4 := nums_len p.1 p.2 k
  unfold nmAt
  omega
theorem addNew_in (acc : List Int) (x : Int) : addNew acc x = if acc.contains x = true then acc else acc ++ [x] := rfl
end Go.Proofs.Ytagimjaojpdfiaa
