/- report: Age, onClock, About. -/
import Derived.Test.YtkchhiiomahbaaaMRpS
import Derived.Deep.RegionHeld3
namespace Go.Proofs.Ytkchhiiomahbaaa
open Go.RowKit
set_option linter.unusedVariables false
def onClk (n : Int) : Int := min (max n 0) 1099511627776
/-- What Age answers. -/
def ageV (clock now : Int) : Int := max (onClk now - onClk clock) 0
theorem onClk_bd (n : Int) : 0 ≤ onClk n ∧ onClk n ≤ 1099511627776 := by unfold onClk; omega
/-- The first block of a source. -/
def firstOf (src : Int) : List BK → Option BK
  | [] => none
  | b :: l => if b.src = src then some b else firstOf src l
theorem firstOf_skip (src : Int) (l : List BK) (k : Nat) (h : k < l.length) (hne : (l[k]?.getD zeroBK).src ≠ src) : firstOf src (l.drop k) = firstOf src (l.drop (k + 1)) := by
  rw [List.drop_eq_getElem_cons h]
  rw [List.getElem?_eq_getElem h] at hne
  show (if _ then _ else _) = _
  rw [if_neg (by simpa using hne)]
theorem firstOf_hit (src : Int) (l : List BK) (k : Nat) (h : k < l.length) (he : (l[k]?.getD zeroBK).src = src) : firstOf src (l.drop k) = some (l[k]?.getD zeroBK) := by
  rw [List.drop_eq_getElem_cons h]
  rw [List.getElem?_eq_getElem h] at he ⊢
  show (if _ then _ else _) = _
  rw [if_pos (by simpa using he)]
  rfl
def aboutB (r : List BK) (src : Int) : BK := (firstOf src r).getD zeroBK
def aboutI (r : List BK) (src : Int) : Bool := (firstOf src r).isSome
end Go.Proofs.Ytkchhiiomahbaaa

