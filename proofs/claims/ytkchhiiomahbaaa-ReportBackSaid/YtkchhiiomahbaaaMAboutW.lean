/- ReportAbout: the walk. -/
import Derived.Test.YtkchhiiomahbaaaMRpF
import Derived.Test.YtkchhiiomahbaaaMRpW
import Derived.Test.YtkchhiiomahbaaaMc
import Derived.Deep.CutBlock
import Derived.Deep.RegionHeld3
namespace Go.Proofs.Ytkchhiiomahbaaa
open Go.RowKit
set_option linter.unusedVariables false
theorem own_madeB (W : World) (T : TypeId) (B n : Nat) (hB : B ≤ W.heap.size) (hn : n = W.heap.size) : (W.alloc (.cells #[] T)).ownsRow B T 7 (.slice (some ⟨n, 0, none⟩) 0 0) 0 [] := by
  subst hn; exact World.ownsRow_made _ _ _ hB (by decide) rfl
theorem own7_set {w : World} {T : TypeId} {B g i : Nat} {e : TypeId} {m : Nat} {v u : Value} {n : Nat} {xs : List Value} {c0 c1 c2 c3 c4 c5 c6 : Value} (h : w.ownsRow B e m v n xs) (hP : At7 T w g c0 c1 c2 c3 c4 c5 c6) (hne : T ≠ e) : (w.setCell ⟨g, i, none⟩ u).ownsRow B e m v n xs :=
  ownsRow_setCell_other h (fun x => row_neP h hP (by intro cur p q; simp at q; exact hne q.2.1) x.symm) _
theorem drop_hit (l : List BK) (src : Int) (k : Nat) (h : k < l.length) (he : (l[k]?.getD zeroBK).src = src) : aboutB (l.drop k) src = l[k]?.getD zeroBK ∧ aboutI (l.drop k) src = true := by
  unfold aboutB aboutI
  rw [firstOf_hit src l k h he]
  exact ⟨rfl, rfl⟩
theorem drop_skip (l : List BK) (src : Int) (k : Nat) (h : k < l.length) (he : (l[k]?.getD zeroBK).src ≠ src) : aboutB (l.drop k) src = aboutB (l.drop (k + 1)) src ∧ aboutI (l.drop k) src = aboutI (l.drop (k + 1)) src := by
  unfold aboutB aboutI
  rw [firstOf_skip src l k h he]
  exact ⟨rfl, rfl⟩
theorem drop_end (l : List BK) (src : Int) : aboutB (l.drop l.length) src = zeroBK ∧ aboutI (l.drop l.length) src = false := by
  rw [List.drop_length]; exact ⟨rfl, rfl⟩
namespace reportAbout
end reportAbout
end Go.Proofs.Ytkchhiiomahbaaa

