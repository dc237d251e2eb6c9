/- delay: the law's awake. -/
import Derived.Test.YtkefpedijjbmfaaDlF
namespace Go.Proofs.Ytkefpedijjbmfaa
open Go.RowKit
set_option linter.unusedVariables false
set_option maxHeartbeats 1600000 in
theorem dlAwake_any (w : World) : Calls Try.prog 7 #[] w fun e w' => e = .returned (.bool true) ∧ Below w.heap.size w w' := by
  have HN : Hid (∀ W, Calls Try.prog 12 #[.int .i64 5, .int .i64 50] W fun e w' => e = .returned (.agg #[.int .i64 5, .int .i64 50, .int .i64 5]) ∧ Below W.heap.size W w') := Lib.hid (fun W => dlNew_any 5 50 W)
  have HJ : Hid (∀ W, Calls Try.prog 10 #[.agg #[.int .i64 5, .int .i64 50, .int .i64 5], .int .i64 3] W fun e w' => e = .returned (.agg #[.int .i64 5, .int .i64 50, .int .i64 17]) ∧ Below W.heap.size W w') := Lib.hid (fun W => dlJit_any ⟨5, 50, 5⟩ 3 W)
  have HJ2 : Hid (∀ W, Calls Try.prog 10 #[.agg #[.int .i64 5, .int .i64 50, .int .i64 17], .int .i64 0] W fun e w' => e = .returned (.agg #[.int .i64 5, .int .i64 50, .int .i64 16]) ∧ Below W.heap.size W w') := Lib.hid (fun W => dlJit_any ⟨5, 50, 17⟩ 0 W)
  have HD1 : Hid (∀ W, Calls Try.prog 15 #[.agg #[.int .i64 5, .int .i64 50, .int .i64 17], .int .i64 3, .int .i64 20] W fun e w' => e = .returned (.bool true) ∧ Below W.heap.size W w') := Lib.hid (fun W => dlDue_any ⟨5, 50, 17⟩ 3 20 W)
  have HD2 : Hid (∀ W, Calls Try.prog 15 #[.agg #[.int .i64 5, .int .i64 50, .int .i64 17], .int .i64 3, .int .i64 19] W fun e w' => e = .returned (.bool false) ∧ Below W.heap.size W w') := Lib.hid (fun W => dlDue_any ⟨5, 50, 17⟩ 3 19 W)
  have hfd : ∀ W : World, (Instr.field 27 (.agg #[.int .i64 5, .int .i64 50, .int .i64 16]) 2).run Try.prog W = .ok (.int .i64 16) W := fun _ => by kernel_rfl
  go_enter Try.func7, Try.ntmps7
  go_wp2_with fail
  refine (HN.out _).mono ?_
  rintro e w1 ⟨rfl, hk1⟩
  go_wp2_with fail
  refine (HJ.out _).mono ?_
  rintro e w2 ⟨rfl, hk2⟩
  have hb2 := hk1.trans (hk2.mono hk1.size)
  have hX := at3_new 27 w2 w2.heap.size (.int .i64 5) (.int .i64 50) (.int .i64 17) rfl
  have hb3 := hb2.alloc hb2.size (.cells #[.int .i64 5, .int .i64 50, .int .i64 17] 27)
  have hsz := hb2.size
  go_upto_region 2 with fail
  generalize w2.alloc (.cells #[.int .i64 5, .int .i64 50, .int .i64 17] 27) = w3 at hX hb3 ⊢
  generalize w2.heap.size = g at hX hsz ⊢
  clear hk1 hk2 hb2 HN HJ
  obtain ⟨_, _, _⟩ := hX.cells
  go_wp2_with fail
  refine (HJ2.out _).mono ?_
  rintro e w4 ⟨rfl, hk4⟩
  have hX4 := hX.later hk4
  have hb4 := hb3.trans (hk4.mono hb3.size)
  obtain ⟨_, _, _⟩ := hX4.cells
  go_wp2_with fail
  refine (HD1.out _).mono ?_
  rintro e w5 ⟨rfl, hk5⟩
  have hX5 := hX4.later hk5
  have hb5 := hb4.trans (hk5.mono hb4.size)
  obtain ⟨_, _, _⟩ := hX5.cells
  go_wp2_with fail
  refine (HD2.out _).mono ?_
  rintro e w6 ⟨rfl, hk6⟩
  have hb6 := hb5.trans (hk6.mono hb5.size)
  go_wp2_with fail
  go_ret
  exact ⟨by simp, hb6⟩
end Go.Proofs.Ytkefpedijjbmfaa
