/- The statements' Cut. -/
import Derived.Test.YtilobmebfeenfaaBase
namespace Go.Proofs.Ytilobmebfeenfaa
open Go.RowKit
set_option linter.unusedVariables false
theorem cut_any (s : ByteArray) (n : Nat) (w : World) (hs : s.size ≤ 9223372036854775807) (hn : n ≤ 1099511627776) :
    Calls Try.prog 7 #[.string s, .int .i64 (n : Int)] w fun e w' => e = .returned (.string (cutB s n)) ∧ w = w' := by
  by_cases h : n < s.size
  · have hc : cutB s n = s.extract 0 n := by unfold cutB; rw [if_pos h]
    rw [hc]
    clear hc
    go_enter Try.func7, Try.ntmps7
    go_wp2
    go_ret
    exact ⟨rfl, rfl⟩
  · have hc : cutB s n = s := by unfold cutB; rw [if_neg h]
    rw [hc]
    clear hc
    go_enter Try.func7, Try.ntmps7
    go_wp2
    go_ret
    exact ⟨rfl, rfl⟩
end Go.Proofs.Ytilobmebfeenfaa
