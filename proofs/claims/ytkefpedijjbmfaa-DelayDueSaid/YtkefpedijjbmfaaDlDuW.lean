/- DelayDue: the walk. -/
import Derived.Test.YtkefpedijjbmfaaDlG
namespace Go.Proofs.Ytkefpedijjbmfaa
open Go.RowKit
set_option linter.unusedVariables false
namespace delayDue
set_option maxHeartbeats 1600000 in
theorem walk (a00 a01 a02 a1 a2 : Int) (w00 : (Lit.int .i64 a00).wf = true) (w01 : (Lit.int .i64 a01).wf = true) (w02 : (Lit.int .i64 a02).wf = true) (w1 : (Lit.int .i64 a1).wf = true) (w2 : (Lit.int .i64 a2).wf = true) (w : World) :
    Calls Try.prog 5 #[.agg #[.int .i64 a00, .int .i64 a01, .int .i64 a02], .int .i64 a1, .int .i64 a2] w fun e w' => e = .returned (.bool true) ∧ Below w.heap.size w w' := by
  clear w00 w01 w02 w1 w2
  have HA := Lib.hid (fun W => dlAwake_any W)
  have HD := Lib.hid (fun W => dlDue_any ⟨a00, a01, a02⟩ a1 a2 W)
  have HF := Lib.hid (fun W => refDlFit_any ⟨a00, a01, a02⟩ W)
  generalize DL.fit ⟨a00, a01, a02⟩ = f at HD HF
  obtain ⟨l, m, n⟩ := f
  simp only [DL.val] at HD HF
  have f0 := am_lo 0 a1 1099511627776 (by omega)
  have f1 := am_hi 0 a1 1099511627776
  have n0 := am_lo 0 a2 1099511627776 (by omega)
  have n1 := am_hi 0 a2 1099511627776
  have e1 : max 0 (min a1 1099511627776) = am 0 a1 1099511627776 := am_alt 0 a1 1099511627776 (by omega)
  have e2 : max 0 (min a2 1099511627776) = am 0 a2 1099511627776 := am_alt 0 a2 1099511627776 (by omega)
  generalize am 0 a1 1099511627776 = A at HD f0 f1 e1
  generalize am 0 a2 1099511627776 = N at HD n0 n1 e2
  have hw : IntKind.i64.wrap (N - A) = N - A := IntWalk.i64_in _ ⟨by omega, by omega⟩
  clear f0 f1 n0 n1
  obtain ⟨r, hr⟩ : ∃ r, decide (n ≤ N - A) = r := ⟨_, rfl⟩
  rw [hr] at HD
  have hfd : ∀ W : World, (Instr.field 23 (.agg #[.int .i64 l, .int .i64 m, .int .i64 n]) 2).run Try.prog W = .ok (.int .i64 n) W := fun _ => by kernel_rfl
  have hX0 : At3 23 (w.alloc (.cells #[.int .i64 a00, .int .i64 a01, .int .i64 a02] 23)) w.heap.size (.int .i64 a00) (.int .i64 a01) (.int .i64 a02) := at3_new 23 _ _ (.int .i64 a00) (.int .i64 a01) (.int .i64 a02) rfl
  have hb : Below w.heap.size w (w.alloc (.cells #[.int .i64 a00, .int .i64 a01, .int .i64 a02] 23)) := (Below.refl _ _).alloc (Nat.le_refl _) _
  go_enter Try.func5, Try.ntmps5
  go_upto_region 1 with fail
  generalize (w.alloc (.cells #[.int .i64 a00, .int .i64 a01, .int .i64 a02] 23)) = w2 at hX0 hb ⊢
  generalize hg0 : w.heap.size = g0 at hX0 hb ⊢
  have HG := Lib.hid hg0
  clear hg0
  obtain ⟨_, _, _⟩ := hX0.frees
  obtain ⟨_, _, _⟩ := hX0.cells
  go_wp2_with fail
  refine (HA.out _).mono ?_
  rintro e w3 ⟨rfl, hk3⟩
  have hX0_3 := hX0.later hk3
  have hb3 := hb.trans (hk3.mono (by have := hX0.lt; omega))
  obtain ⟨_, _, _⟩ := hX0_3.frees
  obtain ⟨_, _, _⟩ := hX0_3.cells
  go_upto_region 4 with fail
  go_region_held3 (fun X => X.cell? ⟨g0, 0, none⟩ = some (.int .i64 a00) ∧ X.cell? ⟨g0, 1, none⟩ = some (.int .i64 a01) ∧ X.cell? ⟨g0, 2, none⟩ = some (.int .i64 a02) ∧ At3 23 X g0 (.int .i64 a00) (.int .i64 a01) (.int .i64 a02) ∧ Below g0 w X) (first | (go_keep; done) | exact dlS hX0_3.drew hb3.drew | exact dlS' (Nat.le_refl _) (by go_split_ands; assumption) (by go_split_ands; assumption) (by assumption) | (go_split_ands; assumption)) (first | (go_at_call 15; refine (HD.out _).mono ?_; rintro e w4 ⟨rfl, hk4⟩) | (go_at_call 13; refine (HF.out _).mono ?_; rintro e w5 ⟨rfl, hk5⟩))
  all_goals
    go_wp2
    go_ret
    exact ⟨by subst hr; simp, by rw [HG.out]; go_split_ands; assumption⟩
end delayDue
end Go.Proofs.Ytkefpedijjbmfaa
