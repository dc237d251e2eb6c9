/- nack: the document's In. -/
import Derived.Test.YtagimjaojpdfiaaNkW
import Derived.Test.YtagimjaojpdfiaaNkC
import Derived.Test.YtagimjaojpdfiaaSerLatestW
namespace Go.Proofs.Ytagimjaojpdfiaa
open Go.RowKit
set_option linter.unusedVariables false
theorem contains_at (zs : List Int) (n : Int) (k : Nat) (h : k < zs.length) : (zs[k]?.getD 0 = n → zs.contains n = true) ∧ (¬ zs[k]?.getD 0 = n → (zs.take k).contains n = false → (zs.take (k + 1)).contains n = false) := by
  rw [List.getElem?_eq_getElem h, Option.getD_some]
  refine ⟨fun e => ?_, fun e hc => ?_⟩
  · rw [List.contains_iff_mem, ← e]; exact List.getElem_mem h
  · have hc' : ¬ n ∈ zs.take k := by
      intro hm
      rw [← List.contains_iff_mem] at hm
      rw [hm] at hc
      cases hc
    rw [← Bool.not_eq_true, List.contains_iff_mem]
    simp only [List.take_succ_eq_append_getElem h, List.mem_append, List.mem_singleton]
    rintro (h1 | h1)
    · exact hc' h1
    · exact e h1.symm
end Go.Proofs.Ytagimjaojpdfiaa
