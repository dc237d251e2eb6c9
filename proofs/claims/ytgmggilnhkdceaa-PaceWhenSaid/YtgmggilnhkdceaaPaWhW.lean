/- PaceWhen: the walk. -/
import Derived.Test.YtgmggilnhkdceaaPaW
import Derived.Test.YtgmggilnhkdceaaRecs
namespace Go.Proofs.Ytgmggilnhkdceaa
open Go.RowKit
set_option linter.unusedVariables false
namespace paceWhen
set_option maxHeartbeats 1600000 in
theorem walk0 (a00 a01 a02 a03 a1 : Int) (h0 : PP.when ⟨a00, a01, a02, a03⟩ a1 = -1) (h1 : (PP.fit ⟨a00, a01, a02, a03⟩).b < a1) (w : World) :
    Calls Try.prog 8 #[.agg #[.int .i64 a00, .int .i64 a01, .int .i64 a02, .int .i64 a03], .int .i64 a1] w fun e w' => e = .returned (.bool true) ∧ Below w.heap.size w w' := by
  have HA := Lib.hid (fun W => paAwake_any W)
  have HF := Lib.hid (fun W => refFit_any ⟨a00, a01, a02, a03⟩ W)
  have HW := Lib.hid (fun W => paWhen_any ⟨a00, a01, a02, a03⟩ a1 W)
  have HT := Lib.hid (fun now W => refPaTake_any ⟨a00, a01, a02, a03⟩ now a1 W)
  have hno : (PP.fit ⟨a00, a01, a02, a03⟩).b < a1 ∨ ¬PP.can ⟨a00, a01, a02, a03⟩ 1099511627776 a1 := PP.when_none _ _ h0
  rw [h0] at HW
  have HT1 := Lib.hid (fun W => HT.out 1099511627776 W)
  clear HT h0
  generalize PP.take ⟨a00, a01, a02, a03⟩ 1099511627776 a1 = t1 at HT1
  clear hno
  generalize decide (PP.can ⟨a00, a01, a02, a03⟩ 1099511627776 a1) = d1 at HT1
  generalize PP.fit ⟨a00, a01, a02, a03⟩ = f at *
  obtain ⟨f0, f1, f2, f3⟩ := f
  obtain ⟨t10, t11, t12, t13⟩ := t1
  simp only [PP.val] at *
  have hX0 : At4 47 (w.alloc (.cells #[.int .i64 a00, .int .i64 a01, .int .i64 a02, .int .i64 a03] 47)) w.heap.size (.int .i64 a00) (.int .i64 a01) (.int .i64 a02) (.int .i64 a03) := at4_new 47 _ _ (.int .i64 a00) (.int .i64 a01) (.int .i64 a02) (.int .i64 a03) rfl
  have hb : Below w.heap.size w (w.alloc (.cells #[.int .i64 a00, .int .i64 a01, .int .i64 a02, .int .i64 a03] 47)) := (Below.refl _ _).alloc (Nat.le_refl _) _
  go_enter Try.func8, Try.ntmps8
  go_upto_region 1 with fail
  generalize (w.alloc (.cells #[.int .i64 a00, .int .i64 a01, .int .i64 a02, .int .i64 a03] 47)) = w2 at hX0 hb ⊢
  generalize hg0 : w.heap.size = g0 at hX0 hb ⊢
  have HG := Lib.hid hg0
  clear hg0
  obtain ⟨_, _, _, _⟩ := hX0.frees
  obtain ⟨_, _, _, _⟩ := hX0.cells
  go_wp2_with fail
  refine (HA.out _).mono ?_
  rintro e w3 ⟨rfl, hk3⟩
  have hX0_3 := hX0.later hk3
  have hb3 := hb.trans (hk3.mono (by have := hX0.lt; omega))
  obtain ⟨_, _, _, _⟩ := hX0_3.frees
  obtain ⟨_, _, _, _⟩ := hX0_3.cells
  go_upto_region 3 with fail
  go_wp2_with fail
  refine (HF.out _).mono ?_
  rintro e w4 ⟨rfl, hk4⟩
  have hX0_4 := hX0_3.later hk4
  have hb4 := hb3.trans (hk4.mono (by have := hX0_3.lt; omega))
  obtain ⟨_, _, _, _⟩ := hX0_4.frees
  obtain ⟨_, _, _, _⟩ := hX0_4.cells
  have hX0_5 := hX0_4.alloc (.cells #[.int .i64 f0, .int .i64 f1, .int .i64 f2, .int .i64 f3] 47)
  have hb5 := hb4.alloc (by have := hX0_4.lt; omega) (.cells #[.int .i64 f0, .int .i64 f1, .int .i64 f2, .int .i64 f3] 47)
  have hX1_5 := at4_new 47 w4 _ (.int .i64 f0) (.int .i64 f1) (.int .i64 f2) (.int .i64 f3) rfl
  have lt0_5 := hX0_4.lt
  go_upto_region 4 with fail
  generalize (w4.alloc (.cells #[.int .i64 f0, .int .i64 f1, .int .i64 f2, .int .i64 f3] 47)) = w5 at hX0_5 hX1_5 hb5 ⊢
  generalize w4.heap.size = g1 at hX1_5 lt0_5 ⊢
  have hne10 : g1 ≠ g0 := by omega
  have hne01 : g0 ≠ g1 := by omega
  have hle1 : g0 ≤ g1 := by omega
  clear lt0_5
  obtain ⟨_, _, _, _⟩ := hX0_5.frees
  obtain ⟨_, _, _, _⟩ := hX0_5.cells
  obtain ⟨_, _, _, _⟩ := hX1_5.frees
  obtain ⟨_, _, _, _⟩ := hX1_5.cells
  go_wp2_with fail
  refine (HW.out _).mono ?_
  rintro e w6 ⟨rfl, hk6⟩
  have hX0_6 := hX0_5.later hk6
  have hX1_6 := hX1_5.later hk6
  have hb6 := hb5.trans (hk6.mono (by have := hX0_5.lt; omega))
  obtain ⟨_, _, _, _⟩ := hX0_6.frees
  obtain ⟨_, _, _, _⟩ := hX0_6.cells
  obtain ⟨_, _, _, _⟩ := hX1_6.frees
  obtain ⟨_, _, _, _⟩ := hX1_6.cells
  go_upto_region 6 with fail
  go_wp2_with fail
  refine (HT1.out _).mono ?_
  rintro e w7 ⟨rfl, hk7⟩
  have hX0_7 := hX0_6.later hk7
  have hX1_7 := hX1_6.later hk7
  have hb7 := hb6.trans (hk7.mono (by have := hX0_6.lt; omega))
  obtain ⟨_, _, _, _⟩ := hX0_7.frees
  obtain ⟨_, _, _, _⟩ := hX0_7.cells
  obtain ⟨_, _, _, _⟩ := hX1_7.frees
  obtain ⟨_, _, _, _⟩ := hX1_7.cells
  have hX0_8 := hX0_7.alloc (.cells #[.int .i64 t10, .int .i64 t11, .int .i64 t12, .int .i64 t13] 47)
  have hX1_8 := hX1_7.alloc (.cells #[.int .i64 t10, .int .i64 t11, .int .i64 t12, .int .i64 t13] 47)
  have hb8 := hb7.alloc (by have := hX0_7.lt; omega) (.cells #[.int .i64 t10, .int .i64 t11, .int .i64 t12, .int .i64 t13] 47)
  have hX2_8 := at4_new 47 w7 _ (.int .i64 t10) (.int .i64 t11) (.int .i64 t12) (.int .i64 t13) rfl
  have lt0_8 := hX0_7.lt
  have lt1_8 := hX1_7.lt
  go_upto_region 7 with fail
  generalize (w7.alloc (.cells #[.int .i64 t10, .int .i64 t11, .int .i64 t12, .int .i64 t13] 47)) = w8 at hX0_8 hX1_8 hX2_8 hb8 ⊢
  generalize w7.heap.size = g2 at hX2_8 lt0_8 lt1_8 ⊢
  have hne20 : g2 ≠ g0 := by omega
  have hne02 : g0 ≠ g2 := by omega
  have hne21 : g2 ≠ g1 := by omega
  have hne12 : g1 ≠ g2 := by omega
  have hle2 : g0 ≤ g2 := by omega
  clear lt0_8 lt1_8
  obtain ⟨_, _, _, _⟩ := hX0_8.frees
  obtain ⟨_, _, _, _⟩ := hX0_8.cells
  obtain ⟨_, _, _, _⟩ := hX1_8.frees
  obtain ⟨_, _, _, _⟩ := hX1_8.cells
  obtain ⟨_, _, _, _⟩ := hX2_8.frees
  obtain ⟨_, _, _, _⟩ := hX2_8.cells
  go_wp2_with fail
  go_ret
  exact ⟨by simp, by rw [HG.out]; exact hb8⟩
set_option maxHeartbeats 1600000 in
theorem walk1 (a00 a01 a02 a03 a1 : Int) (h0 : PP.when ⟨a00, a01, a02, a03⟩ a1 = -1) (h1 : ¬(PP.fit ⟨a00, a01, a02, a03⟩).b < a1) (w : World) :
    Calls Try.prog 8 #[.agg #[.int .i64 a00, .int .i64 a01, .int .i64 a02, .int .i64 a03], .int .i64 a1] w fun e w' => e = .returned (.bool true) ∧ Below w.heap.size w w' := by
  have HA := Lib.hid (fun W => paAwake_any W)
  have HF := Lib.hid (fun W => refFit_any ⟨a00, a01, a02, a03⟩ W)
  have HW := Lib.hid (fun W => paWhen_any ⟨a00, a01, a02, a03⟩ a1 W)
  have HT := Lib.hid (fun now W => refPaTake_any ⟨a00, a01, a02, a03⟩ now a1 W)
  have hno : (PP.fit ⟨a00, a01, a02, a03⟩).b < a1 ∨ ¬PP.can ⟨a00, a01, a02, a03⟩ 1099511627776 a1 := PP.when_none _ _ h0
  rw [h0] at HW
  have HT1 := Lib.hid (fun W => HT.out 1099511627776 W)
  clear HT h0
  generalize PP.take ⟨a00, a01, a02, a03⟩ 1099511627776 a1 = t1 at HT1
  have hc := hno.resolve_left h1
  rw [decide_eq_false hc] at HT1
  clear hc hno
  generalize PP.fit ⟨a00, a01, a02, a03⟩ = f at *
  obtain ⟨f0, f1, f2, f3⟩ := f
  obtain ⟨t10, t11, t12, t13⟩ := t1
  simp only [PP.val] at *
  have hX0 : At4 47 (w.alloc (.cells #[.int .i64 a00, .int .i64 a01, .int .i64 a02, .int .i64 a03] 47)) w.heap.size (.int .i64 a00) (.int .i64 a01) (.int .i64 a02) (.int .i64 a03) := at4_new 47 _ _ (.int .i64 a00) (.int .i64 a01) (.int .i64 a02) (.int .i64 a03) rfl
  have hb : Below w.heap.size w (w.alloc (.cells #[.int .i64 a00, .int .i64 a01, .int .i64 a02, .int .i64 a03] 47)) := (Below.refl _ _).alloc (Nat.le_refl _) _
  go_enter Try.func8, Try.ntmps8
  go_upto_region 1 with fail
  generalize (w.alloc (.cells #[.int .i64 a00, .int .i64 a01, .int .i64 a02, .int .i64 a03] 47)) = w2 at hX0 hb ⊢
  generalize hg0 : w.heap.size = g0 at hX0 hb ⊢
  have HG := Lib.hid hg0
  clear hg0
  obtain ⟨_, _, _, _⟩ := hX0.frees
  obtain ⟨_, _, _, _⟩ := hX0.cells
  go_wp2_with fail
  refine (HA.out _).mono ?_
  rintro e w3 ⟨rfl, hk3⟩
  have hX0_3 := hX0.later hk3
  have hb3 := hb.trans (hk3.mono (by have := hX0.lt; omega))
  obtain ⟨_, _, _, _⟩ := hX0_3.frees
  obtain ⟨_, _, _, _⟩ := hX0_3.cells
  go_upto_region 3 with fail
  go_wp2_with fail
  refine (HF.out _).mono ?_
  rintro e w4 ⟨rfl, hk4⟩
  have hX0_4 := hX0_3.later hk4
  have hb4 := hb3.trans (hk4.mono (by have := hX0_3.lt; omega))
  obtain ⟨_, _, _, _⟩ := hX0_4.frees
  obtain ⟨_, _, _, _⟩ := hX0_4.cells
  have hX0_5 := hX0_4.alloc (.cells #[.int .i64 f0, .int .i64 f1, .int .i64 f2, .int .i64 f3] 47)
  have hb5 := hb4.alloc (by have := hX0_4.lt; omega) (.cells #[.int .i64 f0, .int .i64 f1, .int .i64 f2, .int .i64 f3] 47)
  have hX1_5 := at4_new 47 w4 _ (.int .i64 f0) (.int .i64 f1) (.int .i64 f2) (.int .i64 f3) rfl
  have lt0_5 := hX0_4.lt
  go_upto_region 4 with fail
  generalize (w4.alloc (.cells #[.int .i64 f0, .int .i64 f1, .int .i64 f2, .int .i64 f3] 47)) = w5 at hX0_5 hX1_5 hb5 ⊢
  generalize w4.heap.size = g1 at hX1_5 lt0_5 ⊢
  have hne10 : g1 ≠ g0 := by omega
  have hne01 : g0 ≠ g1 := by omega
  have hle1 : g0 ≤ g1 := by omega
  clear lt0_5
  obtain ⟨_, _, _, _⟩ := hX0_5.frees
  obtain ⟨_, _, _, _⟩ := hX0_5.cells
  obtain ⟨_, _, _, _⟩ := hX1_5.frees
  obtain ⟨_, _, _, _⟩ := hX1_5.cells
  go_wp2_with fail
  refine (HW.out _).mono ?_
  rintro e w6 ⟨rfl, hk6⟩
  have hX0_6 := hX0_5.later hk6
  have hX1_6 := hX1_5.later hk6
  have hb6 := hb5.trans (hk6.mono (by have := hX0_5.lt; omega))
  obtain ⟨_, _, _, _⟩ := hX0_6.frees
  obtain ⟨_, _, _, _⟩ := hX0_6.cells
  obtain ⟨_, _, _, _⟩ := hX1_6.frees
  obtain ⟨_, _, _, _⟩ := hX1_6.cells
  go_upto_region 6 with fail
  go_wp2_with fail
  refine (HT1.out _).mono ?_
  rintro e w7 ⟨rfl, hk7⟩
  have hX0_7 := hX0_6.later hk7
  have hX1_7 := hX1_6.later hk7
  have hb7 := hb6.trans (hk7.mono (by have := hX0_6.lt; omega))
  obtain ⟨_, _, _, _⟩ := hX0_7.frees
  obtain ⟨_, _, _, _⟩ := hX0_7.cells
  obtain ⟨_, _, _, _⟩ := hX1_7.frees
  obtain ⟨_, _, _, _⟩ := hX1_7.cells
  have hX0_8 := hX0_7.alloc (.cells #[.int .i64 t10, .int .i64 t11, .int .i64 t12, .int .i64 t13] 47)
  have hX1_8 := hX1_7.alloc (.cells #[.int .i64 t10, .int .i64 t11, .int .i64 t12, .int .i64 t13] 47)
  have hb8 := hb7.alloc (by have := hX0_7.lt; omega) (.cells #[.int .i64 t10, .int .i64 t11, .int .i64 t12, .int .i64 t13] 47)
  have hX2_8 := at4_new 47 w7 _ (.int .i64 t10) (.int .i64 t11) (.int .i64 t12) (.int .i64 t13) rfl
  have lt0_8 := hX0_7.lt
  have lt1_8 := hX1_7.lt
  go_upto_region 7 with fail
  generalize (w7.alloc (.cells #[.int .i64 t10, .int .i64 t11, .int .i64 t12, .int .i64 t13] 47)) = w8 at hX0_8 hX1_8 hX2_8 hb8 ⊢
  generalize w7.heap.size = g2 at hX2_8 lt0_8 lt1_8 ⊢
  have hne20 : g2 ≠ g0 := by omega
  have hne02 : g0 ≠ g2 := by omega
  have hne21 : g2 ≠ g1 := by omega
  have hne12 : g1 ≠ g2 := by omega
  have hle2 : g0 ≤ g2 := by omega
  clear lt0_8 lt1_8
  obtain ⟨_, _, _, _⟩ := hX0_8.frees
  obtain ⟨_, _, _, _⟩ := hX0_8.cells
  obtain ⟨_, _, _, _⟩ := hX1_8.frees
  obtain ⟨_, _, _, _⟩ := hX1_8.cells
  obtain ⟨_, _, _, _⟩ := hX2_8.frees
  obtain ⟨_, _, _, _⟩ := hX2_8.cells
  go_wp2_with fail
  go_ret
  exact ⟨by simp, by rw [HG.out]; exact hb8⟩
set_option maxHeartbeats 1600000 in
theorem walk2 (a00 a01 a02 a03 a1 : Int) (h0 : PP.when ⟨a00, a01, a02, a03⟩ a1 ≠ -1) (h1 : PP.when ⟨a00, a01, a02, a03⟩ a1 = (PP.fit ⟨a00, a01, a02, a03⟩).l) (w : World) :
    Calls Try.prog 8 #[.agg #[.int .i64 a00, .int .i64 a01, .int .i64 a02, .int .i64 a03], .int .i64 a1] w fun e w' => e = .returned (.bool true) ∧ Below w.heap.size w w' := by
  have HA := Lib.hid (fun W => paAwake_any W)
  have HF := Lib.hid (fun W => refFit_any ⟨a00, a01, a02, a03⟩ W)
  have HW := Lib.hid (fun W => paWhen_any ⟨a00, a01, a02, a03⟩ a1 W)
  have HT := Lib.hid (fun now W => refPaTake_any ⟨a00, a01, a02, a03⟩ now a1 W)
  obtain ⟨s1, s2, s3, s4⟩ := PP.when_some ⟨a00, a01, a02, a03⟩ a1 h0
  have hl0 := (PP.fit_ok ⟨a00, a01, a02, a03⟩).l0
  generalize PP.when ⟨a00, a01, a02, a03⟩ a1 = at_ at HW s1 s2 s3 s4 h0 h1
  have HT1 := Lib.hid (fun W => HT.out at_ W)
  have HT2 := Lib.hid (fun W => HT.out (at_ - 1) W)
  clear HT
  generalize PP.take ⟨a00, a01, a02, a03⟩ at_ a1 = t1 at HT1
  generalize PP.take ⟨a00, a01, a02, a03⟩ (at_ - 1) a1 = t2 at HT2
  rw [decide_eq_true s1] at HT1
  generalize decide (PP.can ⟨a00, a01, a02, a03⟩ (at_ - 1) a1) = d2 at HT2
  clear s4 s1
  generalize PP.fit ⟨a00, a01, a02, a03⟩ = f at *
  obtain ⟨f0, f1, f2, f3⟩ := f
  obtain ⟨t10, t11, t12, t13⟩ := t1
  obtain ⟨t20, t21, t22, t23⟩ := t2
  have hwd : IntKind.i64.wrap (at_ - 1) = at_ - 1 := IntWalk.i64_in _ ⟨by simp only at s2 hl0; omega, by omega⟩
  simp only [PP.val] at *
  clear hl0 s3
  subst h1
  clear s2
  have hX0 : At4 47 (w.alloc (.cells #[.int .i64 a00, .int .i64 a01, .int .i64 a02, .int .i64 a03] 47)) w.heap.size (.int .i64 a00) (.int .i64 a01) (.int .i64 a02) (.int .i64 a03) := at4_new 47 _ _ (.int .i64 a00) (.int .i64 a01) (.int .i64 a02) (.int .i64 a03) rfl
  have hb : Below w.heap.size w (w.alloc (.cells #[.int .i64 a00, .int .i64 a01, .int .i64 a02, .int .i64 a03] 47)) := (Below.refl _ _).alloc (Nat.le_refl _) _
  go_enter Try.func8, Try.ntmps8
  go_upto_region 1 with fail
  generalize (w.alloc (.cells #[.int .i64 a00, .int .i64 a01, .int .i64 a02, .int .i64 a03] 47)) = w2 at hX0 hb ⊢
  generalize hg0 : w.heap.size = g0 at hX0 hb ⊢
  have HG := Lib.hid hg0
  clear hg0
  obtain ⟨_, _, _, _⟩ := hX0.frees
  obtain ⟨_, _, _, _⟩ := hX0.cells
  go_wp2_with fail
  refine (HA.out _).mono ?_
  rintro e w3 ⟨rfl, hk3⟩
  have hX0_3 := hX0.later hk3
  have hb3 := hb.trans (hk3.mono (by have := hX0.lt; omega))
  obtain ⟨_, _, _, _⟩ := hX0_3.frees
  obtain ⟨_, _, _, _⟩ := hX0_3.cells
  go_upto_region 3 with fail
  go_wp2_with fail
  refine (HF.out _).mono ?_
  rintro e w4 ⟨rfl, hk4⟩
  have hX0_4 := hX0_3.later hk4
  have hb4 := hb3.trans (hk4.mono (by have := hX0_3.lt; omega))
  obtain ⟨_, _, _, _⟩ := hX0_4.frees
  obtain ⟨_, _, _, _⟩ := hX0_4.cells
  have hX0_5 := hX0_4.alloc (.cells #[.int .i64 f0, .int .i64 f1, .int .i64 f2, .int .i64 at_] 47)
  have hb5 := hb4.alloc (by have := hX0_4.lt; omega) (.cells #[.int .i64 f0, .int .i64 f1, .int .i64 f2, .int .i64 at_] 47)
  have hX1_5 := at4_new 47 w4 _ (.int .i64 f0) (.int .i64 f1) (.int .i64 f2) (.int .i64 at_) rfl
  have lt0_5 := hX0_4.lt
  go_upto_region 4 with fail
  generalize (w4.alloc (.cells #[.int .i64 f0, .int .i64 f1, .int .i64 f2, .int .i64 at_] 47)) = w5 at hX0_5 hX1_5 hb5 ⊢
  generalize w4.heap.size = g1 at hX1_5 lt0_5 ⊢
  have hne10 : g1 ≠ g0 := by omega
  have hne01 : g0 ≠ g1 := by omega
  have hle1 : g0 ≤ g1 := by omega
  clear lt0_5
  obtain ⟨_, _, _, _⟩ := hX0_5.frees
  obtain ⟨_, _, _, _⟩ := hX0_5.cells
  obtain ⟨_, _, _, _⟩ := hX1_5.frees
  obtain ⟨_, _, _, _⟩ := hX1_5.cells
  go_wp2_with fail
  refine (HW.out _).mono ?_
  rintro e w6 ⟨rfl, hk6⟩
  have hX0_6 := hX0_5.later hk6
  have hX1_6 := hX1_5.later hk6
  have hb6 := hb5.trans (hk6.mono (by have := hX0_5.lt; omega))
  obtain ⟨_, _, _, _⟩ := hX0_6.frees
  obtain ⟨_, _, _, _⟩ := hX0_6.cells
  obtain ⟨_, _, _, _⟩ := hX1_6.frees
  obtain ⟨_, _, _, _⟩ := hX1_6.cells
  go_upto_region 8 with fail
  go_wp2_with fail
  refine (HT1.out _).mono ?_
  rintro e w7 ⟨rfl, hk7⟩
  have hX0_7 := hX0_6.later hk7
  have hX1_7 := hX1_6.later hk7
  have hb7 := hb6.trans (hk7.mono (by have := hX0_6.lt; omega))
  obtain ⟨_, _, _, _⟩ := hX0_7.frees
  obtain ⟨_, _, _, _⟩ := hX0_7.cells
  obtain ⟨_, _, _, _⟩ := hX1_7.frees
  obtain ⟨_, _, _, _⟩ := hX1_7.cells
  have hX0_8 := hX0_7.alloc (.cells #[.int .i64 t10, .int .i64 t11, .int .i64 t12, .int .i64 t13] 47)
  have hX1_8 := hX1_7.alloc (.cells #[.int .i64 t10, .int .i64 t11, .int .i64 t12, .int .i64 t13] 47)
  have hb8 := hb7.alloc (by have := hX0_7.lt; omega) (.cells #[.int .i64 t10, .int .i64 t11, .int .i64 t12, .int .i64 t13] 47)
  have hX2_8 := at4_new 47 w7 _ (.int .i64 t10) (.int .i64 t11) (.int .i64 t12) (.int .i64 t13) rfl
  have lt0_8 := hX0_7.lt
  have lt1_8 := hX1_7.lt
  go_upto_region 9 with fail
  generalize (w7.alloc (.cells #[.int .i64 t10, .int .i64 t11, .int .i64 t12, .int .i64 t13] 47)) = w8 at hX0_8 hX1_8 hX2_8 hb8 ⊢
  generalize w7.heap.size = g2 at hX2_8 lt0_8 lt1_8 ⊢
  have hne20 : g2 ≠ g0 := by omega
  have hne02 : g0 ≠ g2 := by omega
  have hne21 : g2 ≠ g1 := by omega
  have hne12 : g1 ≠ g2 := by omega
  have hle2 : g0 ≤ g2 := by omega
  clear lt0_8 lt1_8
  obtain ⟨_, _, _, _⟩ := hX0_8.frees
  obtain ⟨_, _, _, _⟩ := hX0_8.cells
  obtain ⟨_, _, _, _⟩ := hX1_8.frees
  obtain ⟨_, _, _, _⟩ := hX1_8.cells
  obtain ⟨_, _, _, _⟩ := hX2_8.frees
  obtain ⟨_, _, _, _⟩ := hX2_8.cells
  go_wp2_with fail
  refine (HT2.out _).mono ?_
  rintro e w9 ⟨rfl, hk9⟩
  have hX0_9 := hX0_8.later hk9
  have hX1_9 := hX1_8.later hk9
  have hX2_9 := hX2_8.later hk9
  have hb9 := hb8.trans (hk9.mono (by have := hX0_8.lt; omega))
  obtain ⟨_, _, _, _⟩ := hX0_9.frees
  obtain ⟨_, _, _, _⟩ := hX0_9.cells
  obtain ⟨_, _, _, _⟩ := hX1_9.frees
  obtain ⟨_, _, _, _⟩ := hX1_9.cells
  obtain ⟨_, _, _, _⟩ := hX2_9.frees
  obtain ⟨_, _, _, _⟩ := hX2_9.cells
  have hX0_10 := hX0_9.alloc (.cells #[.int .i64 t20, .int .i64 t21, .int .i64 t22, .int .i64 t23] 47)
  have hX1_10 := hX1_9.alloc (.cells #[.int .i64 t20, .int .i64 t21, .int .i64 t22, .int .i64 t23] 47)
  have hX2_10 := hX2_9.alloc (.cells #[.int .i64 t20, .int .i64 t21, .int .i64 t22, .int .i64 t23] 47)
  have hb10 := hb9.alloc (by have := hX0_9.lt; omega) (.cells #[.int .i64 t20, .int .i64 t21, .int .i64 t22, .int .i64 t23] 47)
  have hX3_10 := at4_new 47 w9 _ (.int .i64 t20) (.int .i64 t21) (.int .i64 t22) (.int .i64 t23) rfl
  have lt0_10 := hX0_9.lt
  have lt1_10 := hX1_9.lt
  have lt2_10 := hX2_9.lt
  go_upto_region 10 with fail
  generalize (w9.alloc (.cells #[.int .i64 t20, .int .i64 t21, .int .i64 t22, .int .i64 t23] 47)) = w10 at hX0_10 hX1_10 hX2_10 hX3_10 hb10 ⊢
  generalize w9.heap.size = g3 at hX3_10 lt0_10 lt1_10 lt2_10 ⊢
  have hne30 : g3 ≠ g0 := by omega
  have hne03 : g0 ≠ g3 := by omega
  have hne31 : g3 ≠ g1 := by omega
  have hne13 : g1 ≠ g3 := by omega
  have hne32 : g3 ≠ g2 := by omega
  have hne23 : g2 ≠ g3 := by omega
  have hle3 : g0 ≤ g3 := by omega
  clear lt0_10 lt1_10 lt2_10
  obtain ⟨_, _, _, _⟩ := hX0_10.frees
  obtain ⟨_, _, _, _⟩ := hX0_10.cells
  obtain ⟨_, _, _, _⟩ := hX1_10.frees
  obtain ⟨_, _, _, _⟩ := hX1_10.cells
  obtain ⟨_, _, _, _⟩ := hX2_10.frees
  obtain ⟨_, _, _, _⟩ := hX2_10.cells
  obtain ⟨_, _, _, _⟩ := hX3_10.frees
  obtain ⟨_, _, _, _⟩ := hX3_10.cells
  go_wp2_with fail
  go_ret
  exact ⟨by simp, by rw [HG.out]; exact hb10⟩
set_option maxHeartbeats 1600000 in
theorem walk3 (a00 a01 a02 a03 a1 : Int) (h0 : PP.when ⟨a00, a01, a02, a03⟩ a1 ≠ -1) (h1 : PP.when ⟨a00, a01, a02, a03⟩ a1 ≠ (PP.fit ⟨a00, a01, a02, a03⟩).l) (w : World) :
    Calls Try.prog 8 #[.agg #[.int .i64 a00, .int .i64 a01, .int .i64 a02, .int .i64 a03], .int .i64 a1] w fun e w' => e = .returned (.bool true) ∧ Below w.heap.size w w' := by
  have HA := Lib.hid (fun W => paAwake_any W)
  have HF := Lib.hid (fun W => refFit_any ⟨a00, a01, a02, a03⟩ W)
  have HW := Lib.hid (fun W => paWhen_any ⟨a00, a01, a02, a03⟩ a1 W)
  have HT := Lib.hid (fun now W => refPaTake_any ⟨a00, a01, a02, a03⟩ now a1 W)
  obtain ⟨s1, s2, s3, s4⟩ := PP.when_some ⟨a00, a01, a02, a03⟩ a1 h0
  have hl0 := (PP.fit_ok ⟨a00, a01, a02, a03⟩).l0
  generalize PP.when ⟨a00, a01, a02, a03⟩ a1 = at_ at HW s1 s2 s3 s4 h0 h1
  have HT1 := Lib.hid (fun W => HT.out at_ W)
  have HT2 := Lib.hid (fun W => HT.out (at_ - 1) W)
  clear HT
  generalize PP.take ⟨a00, a01, a02, a03⟩ at_ a1 = t1 at HT1
  generalize PP.take ⟨a00, a01, a02, a03⟩ (at_ - 1) a1 = t2 at HT2
  rw [decide_eq_true s1] at HT1
  rw [decide_eq_false (s4.resolve_left h1)] at HT2
  clear s4 s1
  generalize PP.fit ⟨a00, a01, a02, a03⟩ = f at *
  obtain ⟨f0, f1, f2, f3⟩ := f
  obtain ⟨t10, t11, t12, t13⟩ := t1
  obtain ⟨t20, t21, t22, t23⟩ := t2
  have hwd : IntKind.i64.wrap (at_ - 1) = at_ - 1 := IntWalk.i64_in _ ⟨by simp only at s2 hl0; omega, by omega⟩
  simp only [PP.val] at *
  clear hl0 s3
  have s5 : (at_ == f3) = false := by simpa using h1
  have hX0 : At4 47 (w.alloc (.cells #[.int .i64 a00, .int .i64 a01, .int .i64 a02, .int .i64 a03] 47)) w.heap.size (.int .i64 a00) (.int .i64 a01) (.int .i64 a02) (.int .i64 a03) := at4_new 47 _ _ (.int .i64 a00) (.int .i64 a01) (.int .i64 a02) (.int .i64 a03) rfl
  have hb : Below w.heap.size w (w.alloc (.cells #[.int .i64 a00, .int .i64 a01, .int .i64 a02, .int .i64 a03] 47)) := (Below.refl _ _).alloc (Nat.le_refl _) _
  go_enter Try.func8, Try.ntmps8
  go_upto_region 1 with fail
  generalize (w.alloc (.cells #[.int .i64 a00, .int .i64 a01, .int .i64 a02, .int .i64 a03] 47)) = w2 at hX0 hb ⊢
  generalize hg0 : w.heap.size = g0 at hX0 hb ⊢
  have HG := Lib.hid hg0
  clear hg0
  obtain ⟨_, _, _, _⟩ := hX0.frees
  obtain ⟨_, _, _, _⟩ := hX0.cells
  go_wp2_with fail
  refine (HA.out _).mono ?_
  rintro e w3 ⟨rfl, hk3⟩
  have hX0_3 := hX0.later hk3
  have hb3 := hb.trans (hk3.mono (by have := hX0.lt; omega))
  obtain ⟨_, _, _, _⟩ := hX0_3.frees
  obtain ⟨_, _, _, _⟩ := hX0_3.cells
  go_upto_region 3 with fail
  go_wp2_with fail
  refine (HF.out _).mono ?_
  rintro e w4 ⟨rfl, hk4⟩
  have hX0_4 := hX0_3.later hk4
  have hb4 := hb3.trans (hk4.mono (by have := hX0_3.lt; omega))
  obtain ⟨_, _, _, _⟩ := hX0_4.frees
  obtain ⟨_, _, _, _⟩ := hX0_4.cells
  have hX0_5 := hX0_4.alloc (.cells #[.int .i64 f0, .int .i64 f1, .int .i64 f2, .int .i64 f3] 47)
  have hb5 := hb4.alloc (by have := hX0_4.lt; omega) (.cells #[.int .i64 f0, .int .i64 f1, .int .i64 f2, .int .i64 f3] 47)
  have hX1_5 := at4_new 47 w4 _ (.int .i64 f0) (.int .i64 f1) (.int .i64 f2) (.int .i64 f3) rfl
  have lt0_5 := hX0_4.lt
  go_upto_region 4 with fail
  generalize (w4.alloc (.cells #[.int .i64 f0, .int .i64 f1, .int .i64 f2, .int .i64 f3] 47)) = w5 at hX0_5 hX1_5 hb5 ⊢
  generalize w4.heap.size = g1 at hX1_5 lt0_5 ⊢
  have hne10 : g1 ≠ g0 := by omega
  have hne01 : g0 ≠ g1 := by omega
  have hle1 : g0 ≤ g1 := by omega
  clear lt0_5
  obtain ⟨_, _, _, _⟩ := hX0_5.frees
  obtain ⟨_, _, _, _⟩ := hX0_5.cells
  obtain ⟨_, _, _, _⟩ := hX1_5.frees
  obtain ⟨_, _, _, _⟩ := hX1_5.cells
  go_wp2_with fail
  refine (HW.out _).mono ?_
  rintro e w6 ⟨rfl, hk6⟩
  have hX0_6 := hX0_5.later hk6
  have hX1_6 := hX1_5.later hk6
  have hb6 := hb5.trans (hk6.mono (by have := hX0_5.lt; omega))
  obtain ⟨_, _, _, _⟩ := hX0_6.frees
  obtain ⟨_, _, _, _⟩ := hX0_6.cells
  obtain ⟨_, _, _, _⟩ := hX1_6.frees
  obtain ⟨_, _, _, _⟩ := hX1_6.cells
  go_upto_region 8 with fail
  go_wp2_with fail
  refine (HT1.out _).mono ?_
  rintro e w7 ⟨rfl, hk7⟩
  have hX0_7 := hX0_6.later hk7
  have hX1_7 := hX1_6.later hk7
  have hb7 := hb6.trans (hk7.mono (by have := hX0_6.lt; omega))
  obtain ⟨_, _, _, _⟩ := hX0_7.frees
  obtain ⟨_, _, _, _⟩ := hX0_7.cells
  obtain ⟨_, _, _, _⟩ := hX1_7.frees
  obtain ⟨_, _, _, _⟩ := hX1_7.cells
  have hX0_8 := hX0_7.alloc (.cells #[.int .i64 t10, .int .i64 t11, .int .i64 t12, .int .i64 t13] 47)
  have hX1_8 := hX1_7.alloc (.cells #[.int .i64 t10, .int .i64 t11, .int .i64 t12, .int .i64 t13] 47)
  have hb8 := hb7.alloc (by have := hX0_7.lt; omega) (.cells #[.int .i64 t10, .int .i64 t11, .int .i64 t12, .int .i64 t13] 47)
  have hX2_8 := at4_new 47 w7 _ (.int .i64 t10) (.int .i64 t11) (.int .i64 t12) (.int .i64 t13) rfl
  have lt0_8 := hX0_7.lt
  have lt1_8 := hX1_7.lt
  go_upto_region 9 with fail
  generalize (w7.alloc (.cells #[.int .i64 t10, .int .i64 t11, .int .i64 t12, .int .i64 t13] 47)) = w8 at hX0_8 hX1_8 hX2_8 hb8 ⊢
  generalize w7.heap.size = g2 at hX2_8 lt0_8 lt1_8 ⊢
  have hne20 : g2 ≠ g0 := by omega
  have hne02 : g0 ≠ g2 := by omega
  have hne21 : g2 ≠ g1 := by omega
  have hne12 : g1 ≠ g2 := by omega
  have hle2 : g0 ≤ g2 := by omega
  clear lt0_8 lt1_8
  obtain ⟨_, _, _, _⟩ := hX0_8.frees
  obtain ⟨_, _, _, _⟩ := hX0_8.cells
  obtain ⟨_, _, _, _⟩ := hX1_8.frees
  obtain ⟨_, _, _, _⟩ := hX1_8.cells
  obtain ⟨_, _, _, _⟩ := hX2_8.frees
  obtain ⟨_, _, _, _⟩ := hX2_8.cells
  go_wp2_with fail
  refine (HT2.out _).mono ?_
  rintro e w9 ⟨rfl, hk9⟩
  have hX0_9 := hX0_8.later hk9
  have hX1_9 := hX1_8.later hk9
  have hX2_9 := hX2_8.later hk9
  have hb9 := hb8.trans (hk9.mono (by have := hX0_8.lt; omega))
  obtain ⟨_, _, _, _⟩ := hX0_9.frees
  obtain ⟨_, _, _, _⟩ := hX0_9.cells
  obtain ⟨_, _, _, _⟩ := hX1_9.frees
  obtain ⟨_, _, _, _⟩ := hX1_9.cells
  obtain ⟨_, _, _, _⟩ := hX2_9.frees
  obtain ⟨_, _, _, _⟩ := hX2_9.cells
  have hX0_10 := hX0_9.alloc (.cells #[.int .i64 t20, .int .i64 t21, .int .i64 t22, .int .i64 t23] 47)
  have hX1_10 := hX1_9.alloc (.cells #[.int .i64 t20, .int .i64 t21, .int .i64 t22, .int .i64 t23] 47)
  have hX2_10 := hX2_9.alloc (.cells #[.int .i64 t20, .int .i64 t21, .int .i64 t22, .int .i64 t23] 47)
  have hb10 := hb9.alloc (by have := hX0_9.lt; omega) (.cells #[.int .i64 t20, .int .i64 t21, .int .i64 t22, .int .i64 t23] 47)
  have hX3_10 := at4_new 47 w9 _ (.int .i64 t20) (.int .i64 t21) (.int .i64 t22) (.int .i64 t23) rfl
  have lt0_10 := hX0_9.lt
  have lt1_10 := hX1_9.lt
  have lt2_10 := hX2_9.lt
  go_upto_region 10 with fail
  generalize (w9.alloc (.cells #[.int .i64 t20, .int .i64 t21, .int .i64 t22, .int .i64 t23] 47)) = w10 at hX0_10 hX1_10 hX2_10 hX3_10 hb10 ⊢
  generalize w9.heap.size = g3 at hX3_10 lt0_10 lt1_10 lt2_10 ⊢
  have hne30 : g3 ≠ g0 := by omega
  have hne03 : g0 ≠ g3 := by omega
  have hne31 : g3 ≠ g1 := by omega
  have hne13 : g1 ≠ g3 := by omega
  have hne32 : g3 ≠ g2 := by omega
  have hne23 : g2 ≠ g3 := by omega
  have hle3 : g0 ≤ g3 := by omega
  clear lt0_10 lt1_10 lt2_10
  obtain ⟨_, _, _, _⟩ := hX0_10.frees
  obtain ⟨_, _, _, _⟩ := hX0_10.cells
  obtain ⟨_, _, _, _⟩ := hX1_10.frees
  obtain ⟨_, _, _, _⟩ := hX1_10.cells
  obtain ⟨_, _, _, _⟩ := hX2_10.frees
  obtain ⟨_, _, _, _⟩ := hX2_10.cells
  obtain ⟨_, _, _, _⟩ := hX3_10.frees
  obtain ⟨_, _, _, _⟩ := hX3_10.cells
  go_wp2_with fail
  go_ret
  exact ⟨by simp, by rw [HG.out]; exact hb10⟩
theorem walk (a00 a01 a02 a03 a1 : Int) (w00 : (Lit.int .i64 a00).wf = true) (w01 : (Lit.int .i64 a01).wf = true) (w02 : (Lit.int .i64 a02).wf = true) (w03 : (Lit.int .i64 a03).wf = true) (w1 : (Lit.int .i64 a1).wf = true) (w : World) :
    Calls Try.prog 8 #[.agg #[.int .i64 a00, .int .i64 a01, .int .i64 a02, .int .i64 a03], .int .i64 a1] w fun e w' => e = .returned (.bool true) ∧ Below w.heap.size w w' := by
  by_cases h0 : PP.when ⟨a00, a01, a02, a03⟩ a1 = -1
  · by_cases h1 : (PP.fit ⟨a00, a01, a02, a03⟩).b < a1
    · exact walk0 a00 a01 a02 a03 a1 h0 h1 w
    · exact walk1 a00 a01 a02 a03 a1 h0 h1 w
  · by_cases h1 : PP.when ⟨a00, a01, a02, a03⟩ a1 = (PP.fit ⟨a00, a01, a02, a03⟩).l
    · exact walk2 a00 a01 a02 a03 a1 h0 h1 w
    · exact walk3 a00 a01 a02 a03 a1 h0 h1 w
end paceWhen
end Go.Proofs.Ytgmggilnhkdceaa
