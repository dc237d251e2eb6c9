/- pace: the law's awake. -/
import Derived.Test.YtgmggilnhkdceaaPaF
namespace Go.Proofs.Ytgmggilnhkdceaa
open Go.RowKit
set_option linter.unusedVariables false
theorem paAwake_any (w : World) : Calls Try.prog 24 #[] w fun e w' => e = .returned (.bool true) ∧ Below w.heap.size w w' := by
  have HN : Hid (∀ W, Calls Try.prog 30 #[.int .i64 10, .int .i64 100, .int .i64 0] W fun e w' => e = .returned (.agg #[.int .i64 10, .int .i64 100, .int .i64 100, .int .i64 0]) ∧ Below W.heap.size W w') := Lib.hid (fun W => paNew_any 10 100 0 W)
  have HT : Hid (∀ W, Calls Try.prog 27 #[.agg #[.int .i64 10, .int .i64 100, .int .i64 100, .int .i64 0], .int .i64 0, .int .i64 100] W fun e w' => e = .returned (.tuple #[.agg #[.int .i64 10, .int .i64 100, .int .i64 0, .int .i64 0], .bool true]) ∧ Below W.heap.size W w') := Lib.hid (fun W => paTake_any ⟨10, 100, 100, 0⟩ 0 100 W)
  have HV : Hid (∀ W, Calls Try.prog 32 #[.agg #[.int .i64 10, .int .i64 100, .int .i64 0, .int .i64 0], .int .i64 25] W fun e w' => e = .returned (.int .i64 3) ∧ Below W.heap.size W w') := Lib.hid (fun W => paWhen_any ⟨10, 100, 0, 0⟩ 25 W)
  have HV2 : Hid (∀ W, Calls Try.prog 32 #[.agg #[.int .i64 10, .int .i64 100, .int .i64 0, .int .i64 0], .int .i64 101] W fun e w' => e = .returned (.int .i64 (-1)) ∧ Below W.heap.size W w') := Lib.hid (fun W => paWhen_any ⟨10, 100, 0, 0⟩ 101 W)
  go_enter Try.func24, Try.ntmps24
  go_wp2_with fail
  refine (HN.out _).mono ?_
  rintro e w1 ⟨rfl, hk1⟩
  go_wp2_with fail
  refine (HT.out _).mono ?_
  rintro e w2 ⟨rfl, hk2⟩
  have hb2 := hk1.trans (hk2.mono hk1.size)
  have hX := at4_new 49 w2 w2.heap.size (.int .i64 10) (.int .i64 100) (.int .i64 0) (.int .i64 0) rfl
  have hb3 := hb2.alloc hb2.size (.cells #[.int .i64 10, .int .i64 100, .int .i64 0, .int .i64 0] 49)
  have hsz := hb2.size
  go_upto_region 2 with fail
  generalize w2.alloc (.cells #[.int .i64 10, .int .i64 100, .int .i64 0, .int .i64 0] 49) = w3 at hX hb3 ⊢
  generalize w2.heap.size = g at hX hsz ⊢
  clear hk1 hk2 hb2 HN HT
  obtain ⟨_, _, _, _⟩ := hX.cells
  go_wp2_with fail
  refine (HV.out _).mono ?_
  rintro e w4 ⟨rfl, hk4⟩
  have hX4 := hX.later hk4
  have hb4 := hb3.trans (hk4.mono hb3.size)
  obtain ⟨_, _, _, _⟩ := hX4.cells
  go_wp2_with fail
  refine (HV2.out _).mono ?_
  rintro e w5 ⟨rfl, hk5⟩
  have hb5 := hb4.trans (hk5.mono hb4.size)
  go_wp2_with fail
  go_ret
  exact ⟨by simp, hb5⟩
end Go.Proofs.Ytgmggilnhkdceaa
