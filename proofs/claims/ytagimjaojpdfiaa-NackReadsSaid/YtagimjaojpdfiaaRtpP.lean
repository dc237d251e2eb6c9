/- rtp: Pack. -/
import Derived.Test.YtagimjaojpdfiaaRtpW
namespace Go.Proofs.Ytagimjaojpdfiaa
open Go.RowKit
set_option linter.unusedVariables false
theorem hdrL_len (p : PK) (pd : Bool) (hp : hdrOk p) : (hdrL p pd).length ≤ 263000 := by
  obtain ⟨_, _, hl, hf, ht⟩ := hp
  unfold hdrL
  simp only [List.length_append, be_len, bes_len]
  cases hx : p.hx
  · simp; omega
  · have := ht hx
    simp [be_len, by_len]; omega
theorem padL_len (n : Nat) (h : 1 ≤ n) : (padL n).length = n := by simp [padL]; omega
end Go.Proofs.Ytagimjaojpdfiaa
