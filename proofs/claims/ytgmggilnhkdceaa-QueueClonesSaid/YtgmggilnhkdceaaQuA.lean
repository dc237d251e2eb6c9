/- queue: Size, sizeOf (it defers a recover), counted. -/
import Derived.Test.YtgmggilnhkdceaaApB
import Derived.Test.YtgmggilnhkdceaaLfB
import Derived.Defers
import Derived.Recover
import Derived.Deep.RegionHeld3
import Derived.Deep.QuietTactic
import Derived.BigQuiet
import Derived.Deep.DeepCutAuto
import Derived.Deep.CutBlock
import Derived.RegionTactic
import Derived.BigRegion
import Derived.Deep.RegionWith
namespace Go.Proofs.Ytgmggilnhkdceaa
open Go.RowKit
set_option linter.unusedVariables false
set_option linter.unusedSimpArgs false
theorem quCounted_q (n : Int) (w : World) : Calls Try.prog 82 #[.int .i64 n] w fun e w' => e = .returned (.int .i64 (min (max n 1) 1073741824)) ∧ w' = w := by
  go_enter Try.func82, Try.ntmps82
  go_wp2
  go_ret
  exact ⟨rfl, rfl⟩
theorem quTSize_q (b : ByteArray) (w : World) : Calls Try.prog 45 #[.string b] w fun e w' => e = .returned (.int .i64 (b.size : Int)) ∧ w' = w := by
  go_enter Try.func45, Try.ntmps45
  go_wp2
  go_ret
  exact ⟨rfl, rfl⟩
theorem quRec_idle (w : World) :
    CallsD Try.prog 83 #[] .returning w fun e u' w' => e = .returned (.tuple #[]) ∧ u' = .returning ∧ w' = w := by
  refine callsD_of_wpS Try.func83 rfl fun c₀ cs hu => ?_
  apply wpS_region
  simp [wpOpsS, go_sem, recoverD, hu, Try.ntmps83, Exit.thenS]
  cases c₀
  simp_all [bodyPostS, results, Try.results83]
theorem quSize_any (b : ByteArray) (w : World) : Calls Try.prog 70 #[.string b] w fun e w' => e = .returned (.int .i64 (b.size : Int)) ∧ w' = w := by
  have hm : max (b.size : Int) 0 = (b.size : Int) := by omega
  go_enter_defers Try.func70, Try.ntmps70
  go_wp2_with fail
  refine (quTSize_q _ _).mono ?_
  rintro e w2 ⟨rfl, rfl⟩
  go_wp2_with fail
  refine leaves_cons (f := 83) (args := #[]) (by simp) (by simp [go_sem]) ?_
  refine (quRec_idle _).mono ?_
  rintro e u' w'' ⟨rfl, rfl, rfl⟩
  simp [Leaves, settle, results, Try.results70, go_sem]
end Go.Proofs.Ytgmggilnhkdceaa
