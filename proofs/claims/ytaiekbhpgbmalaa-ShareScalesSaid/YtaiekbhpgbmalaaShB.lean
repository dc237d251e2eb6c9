/- share: cmp.Compare, toPath, isOf, sharesPath, byPath. -/
import Derived.Test.YtaiekbhpgbmalaaShM
import Derived.Test.YtaiekbhpgbmalaaBase
import Derived.Test.YtaiekbhpgbmalaaGaB
import Derived.Deep.RegionHeld3
import Derived.Deep.QuietTactic
import Derived.BigQuiet
import Derived.Deep.DeepCutAuto
import Derived.Deep.CutBlock
import Derived.RegionTactic
import Derived.BigRegion
import Derived.Deep.RegionWith
namespace Go.Proofs.Ytaiekbhpgbmalaa
open Go.RowKit
set_option linter.unusedVariables false
variable {T : TypeId} {W W' : World} {g b : Nat} {c0 c1 : Value}
/-- Two cells in memory. -/
def AtW (T : TypeId) (W : World) (g : Nat) (c0 c1 : Value) : Prop := W.heap[g]? = some (.cells #[c0, c1] T (0, 0))
theorem AtW.cells (h : AtW T W g c0 c1) : W.cell? ⟨g, 0, none⟩ = some c0 ∧ W.cell? ⟨g, 1, none⟩ = some c1 := by
  unfold AtW at h
  constructor <;> simp [World.cell?, h]
theorem AtW.alloc (h : AtW T W g c0 c1) (o : Obj) : AtW T (W.alloc o) g c0 c1 := ga_old _ _ _ _ h
theorem atW_new (T : TypeId) (W : World) (n : Nat) (c0 c1 : Value) (hn : n = W.heap.size) : AtW T (W.alloc (.cells #[c0, c1] T)) n c0 c1 := by subst hn; exact heap_alloc_new W _
def cmpI (a b : Int) : Int := if a < b then -1 else if b < a then 1 else 0
theorem nan_q (a : Int) (w : World) : Calls Try.prog 29 #[.int .i64 a] w fun e w' => e = .returned (.bool false) ∧ w' = w := by
  go_enter Try.func29, Try.ntmps29
  go_wp2
  go_ret
  exact ⟨by simp, rfl⟩
theorem cmp_q (a b : Int) (w : World) : Calls Try.prog 23 #[.int .i64 a, .int .i64 b] w fun e w' => e = .returned (.int .i64 (cmpI a b)) ∧ w' = w := by
  have e : cmpI a b = if a < b then -1 else if b < a then 1 else 0 := rfl
  by_cases h1 : a < b
  · rw [e, if_pos h1]
    clear e
    go_enter Try.func23, Try.ntmps23
    go_wp2_with fail
    refine (nan_q _ _).mono ?_
    rintro e w' ⟨rfl, rfl⟩
    go_wp2_with fail
    refine (nan_q _ _).mono ?_
    rintro e w' ⟨rfl, rfl⟩
    go_wp2
    go_ret
    exact ⟨rfl, rfl⟩
  · by_cases h2 : b < a
    · rw [e, if_neg h1, if_pos h2]
      clear e
      go_enter Try.func23, Try.ntmps23
      go_wp2_with fail
      refine (nan_q _ _).mono ?_
      rintro e w' ⟨rfl, rfl⟩
      go_wp2_with fail
      refine (nan_q _ _).mono ?_
      rintro e w' ⟨rfl, rfl⟩
      go_wp2
      go_ret
      exact ⟨rfl, rfl⟩
    · rw [e, if_neg h1, if_neg h2]
      clear e
      go_enter Try.func23, Try.ntmps23
      go_wp2_with fail
      refine (nan_q _ _).mono ?_
      rintro e w' ⟨rfl, rfl⟩
      go_wp2_with fail
      refine (nan_q _ _).mono ?_
      rintro e w' ⟨rfl, rfl⟩
      go_wp2
      go_ret
      exact ⟨rfl, rfl⟩
def SL.val (x : SL) : Value := .agg #[.int .i64 x.p, .int .i64 x.w, .int .i64 x.c]
theorem toPath_any (x : SL) (q : Int) (w : World) : Calls Try.prog 24 #[x.val, .int .i64 q] w fun e w' => e = .returned (.int .i64 (cmpI x.p q)) ∧ Below w.heap.size w w' := by
  obtain ⟨p, wt, c⟩ := x
  simp only [SL.val]
  have hX : At3 42 (w.alloc (.cells #[.int .i64 p, .int .i64 wt, .int .i64 c] 42)) w.heap.size (.int .i64 p) (.int .i64 wt) (.int .i64 c) := at3_new 42 w _ _ _ _ rfl
  have hb : Below w.heap.size w (w.alloc (.cells #[.int .i64 p, .int .i64 wt, .int .i64 c] 42)) := (Below.refl _ _).alloc (Nat.le_refl _) _
  go_enter Try.func24, Try.ntmps24
  go_upto_region 1 with fail
  generalize (w.alloc (.cells #[.int .i64 p, .int .i64 wt, .int .i64 c] 42)) = w2 at hX hb ⊢
  obtain ⟨_, _, _⟩ := hX.cells
  go_wp2_with fail
  refine (cmp_q _ _ _).mono ?_
  rintro e w' ⟨rfl, rfl⟩
  go_wp2
  go_ret
  exact ⟨rfl, hb⟩
theorem isOf_any (x : SL) (q v : Int) (w : World) : Calls Try.prog 12 #[x.val, .agg #[.int .i64 q, .int .i64 v]] w fun e w' => e = .returned (.bool (x.p == q && x.w == v)) ∧ Below w.heap.size w w' := by
  obtain ⟨p, wt, c⟩ := x
  simp only [SL.val]
  have hX : At3 42 ((w.alloc (.cells #[.int .i64 p, .int .i64 wt, .int .i64 c] 42)).alloc (.cells #[.int .i64 q, .int .i64 v] 28)) w.heap.size (.int .i64 p) (.int .i64 wt) (.int .i64 c) := (at3_new 42 w _ _ _ _ rfl).alloc _
  have hY : AtW 28 ((w.alloc (.cells #[.int .i64 p, .int .i64 wt, .int .i64 c] 42)).alloc (.cells #[.int .i64 q, .int .i64 v] 28)) (w.heap.size + 1) (.int .i64 q) (.int .i64 v) := atW_new 28 _ _ _ _ (by simp)
  have hb : Below w.heap.size w ((w.alloc (.cells #[.int .i64 p, .int .i64 wt, .int .i64 c] 42)).alloc (.cells #[.int .i64 q, .int .i64 v] 28)) := ((Below.refl _ _).alloc (Nat.le_refl _) _).alloc (by simp) _
  go_enter Try.func12, Try.ntmps12
  go_upto_region 1 with fail
  generalize ((w.alloc (.cells #[.int .i64 p, .int .i64 wt, .int .i64 c] 42)).alloc (.cells #[.int .i64 q, .int .i64 v] 28)) = w2 at hX hY hb ⊢
  obtain ⟨_, _, _⟩ := hX.cells
  obtain ⟨_, _⟩ := hY.cells
  go_wp2_with fail
  all_goals
    go_ret
    exact ⟨by simp [*], hb⟩
theorem sharesPath_any (p k q v : Int) (w : World) : Calls Try.prog 18 #[.agg #[.int .i64 p, .int .i64 k], .agg #[.int .i64 q, .int .i64 v]] w fun e w' => e = .returned (.bool (p == q)) ∧ Below w.heap.size w w' := by
  have hX : AtW 28 ((w.alloc (.cells #[.int .i64 p, .int .i64 k] 28)).alloc (.cells #[.int .i64 q, .int .i64 v] 28)) w.heap.size (.int .i64 p) (.int .i64 k) := (atW_new 28 w _ _ _ rfl).alloc _
  have hY : AtW 28 ((w.alloc (.cells #[.int .i64 p, .int .i64 k] 28)).alloc (.cells #[.int .i64 q, .int .i64 v] 28)) (w.heap.size + 1) (.int .i64 q) (.int .i64 v) := atW_new 28 _ _ _ _ (by simp)
  have hb : Below w.heap.size w ((w.alloc (.cells #[.int .i64 p, .int .i64 k] 28)).alloc (.cells #[.int .i64 q, .int .i64 v] 28)) := ((Below.refl _ _).alloc (Nat.le_refl _) _).alloc (by simp) _
  go_enter Try.func18, Try.ntmps18
  go_upto_region 1 with fail
  generalize ((w.alloc (.cells #[.int .i64 p, .int .i64 k] 28)).alloc (.cells #[.int .i64 q, .int .i64 v] 28)) = w2 at hX hY hb ⊢
  obtain ⟨_, _⟩ := hX.cells
  obtain ⟨_, _⟩ := hY.cells
  go_wp2
  go_ret
  exact ⟨rfl, hb⟩
theorem byPath_any (p k q v : Int) (w : World) : Calls Try.prog 20 #[.agg #[.int .i64 p, .int .i64 k], .agg #[.int .i64 q, .int .i64 v]] w fun e w' => e = .returned (.int .i64 (cmpI p q)) ∧ Below w.heap.size w w' := by
  have hX : AtW 28 ((w.alloc (.cells #[.int .i64 p, .int .i64 k] 28)).alloc (.cells #[.int .i64 q, .int .i64 v] 28)) w.heap.size (.int .i64 p) (.int .i64 k) := (atW_new 28 w _ _ _ rfl).alloc _
  have hY : AtW 28 ((w.alloc (.cells #[.int .i64 p, .int .i64 k] 28)).alloc (.cells #[.int .i64 q, .int .i64 v] 28)) (w.heap.size + 1) (.int .i64 q) (.int .i64 v) := atW_new 28 _ _ _ _ (by simp)
  have hb : Below w.heap.size w ((w.alloc (.cells #[.int .i64 p, .int .i64 k] 28)).alloc (.cells #[.int .i64 q, .int .i64 v] 28)) := ((Below.refl _ _).alloc (Nat.le_refl _) _).alloc (by simp) _
  go_enter Try.func20, Try.ntmps20
  go_upto_region 1 with fail
  generalize ((w.alloc (.cells #[.int .i64 p, .int .i64 k] 28)).alloc (.cells #[.int .i64 q, .int .i64 v] 28)) = w2 at hX hY hb ⊢
  obtain ⟨_, _⟩ := hX.cells
  obtain ⟨_, _⟩ := hY.cells
  go_wp2_with fail
  refine (cmp_q _ _ _).mono ?_
  rintro e w' ⟨rfl, rfl⟩
  go_wp2
  go_ret
  exact ⟨rfl, hb⟩
end Go.Proofs.Ytaiekbhpgbmalaa
