/- source: probe, Update; the document's Update. -/
import Derived.Test.YtncpepbpphpkoaaSoC
namespace Go.Proofs.Ytncpepbpphpkoaa
open Go.RowKit
set_option linter.unusedVariables false

set_option maxHeartbeats 800000 in
theorem probe1_any (mx cy ba bd pr rc n : Int) (q : Int) (hq : IntKind.u16.wrap (mx + 1) = q) (hn : (n != q) = true) (w : World) :
    Calls Try.prog 28 #[.agg #[.int .u16 mx, .int .i64 cy, .int .i64 ba, .int .i64 bd, .int .i64 pr, .int .i64 rc], .int .u16 n] w fun e w' => e = .returned (.tuple #[.agg #[.int .u16 n, .int .i64 cy, .int .i64 ba, .int .i64 bd, .int .i64 1, .int .i64 rc], .bool false]) ∧ Below w.heap.size w w' := by
  have hX : At6 26 ((w.alloc (.cells #[.int .u16 mx, .int .i64 cy, .int .i64 ba, .int .i64 bd, .int .i64 pr, .int .i64 rc] 26)).alloc (.cells #[.int .u16 0, .int .i64 0, .int .i64 0, .int .i64 0, .int .i64 0, .int .i64 0] 26)) w.heap.size (.int .u16 mx) (.int .i64 cy) (.int .i64 ba) (.int .i64 bd) (.int .i64 pr) (.int .i64 rc) := (at6_new 26 w _ (.int .u16 mx) (.int .i64 cy) (.int .i64 ba) (.int .i64 bd) (.int .i64 pr) (.int .i64 rc) rfl).alloc _
  have hY : At6 26 ((w.alloc (.cells #[.int .u16 mx, .int .i64 cy, .int .i64 ba, .int .i64 bd, .int .i64 pr, .int .i64 rc] 26)).alloc (.cells #[.int .u16 0, .int .i64 0, .int .i64 0, .int .i64 0, .int .i64 0, .int .i64 0] 26)) (w.heap.size + 1) (.int .u16 0) (.int .i64 0) (.int .i64 0) (.int .i64 0) (.int .i64 0) (.int .i64 0) := at6_new 26 _ _ (.int .u16 0) (.int .i64 0) (.int .i64 0) (.int .i64 0) (.int .i64 0) (.int .i64 0) (by simp)
  have hb : Below w.heap.size w ((w.alloc (.cells #[.int .u16 mx, .int .i64 cy, .int .i64 ba, .int .i64 bd, .int .i64 pr, .int .i64 rc] 26)).alloc (.cells #[.int .u16 0, .int .i64 0, .int .i64 0, .int .i64 0, .int .i64 0, .int .i64 0] 26)) := ((Below.refl _ _).alloc (Nat.le_refl _) _).alloc (by simp) _
  go_enter Try.func28, Try.ntmps28
  go_upto_region 1 with fail
  generalize ((w.alloc (.cells #[.int .u16 mx, .int .i64 cy, .int .i64 ba, .int .i64 bd, .int .i64 pr, .int .i64 rc] 26)).alloc (.cells #[.int .u16 0, .int .i64 0, .int .i64 0, .int .i64 0, .int .i64 0, .int .i64 0] 26)) = w2 at hX hY hb ⊢
  generalize hg2 : w.heap.size + 1 = g2 at hY ⊢
  generalize hg : w.heap.size = g at hX hb hg2 ⊢
  have hne : g ≠ g2 := by omega
  have hgle : g ≤ g2 := by omega
  have HG := Lib.hid hg
  clear hg hg2
  obtain ⟨_, _, _, _, _, _⟩ := hX.frees
  obtain ⟨_, _, _, _, _, _⟩ := hX.cells
  obtain ⟨_, _, _, _, _, _⟩ := hY.frees
  obtain ⟨_, _, _, _, _, _⟩ := hY.cells
  go_upto_region 4 with fail
  have hX3 := (at6_set0 (at6_set4 hX (.int .i64 1)) (.int .u16 n))
  have ho3 := (((Only.refl g w2).setCell 4 (.int .i64 1)).setCell 0 (.int .u16 n))
  have hY3 := hY.only (fun e => hne e.symm) ho3
  have hb3 := hb.trans (ho3.below (Nat.le_refl _))
  generalize ((w2.setCell ⟨g, 4, none⟩ (.int .i64 1)).setCell ⟨g, 0, none⟩ (.int .u16 n)) = w3 at hX3 hY3 hb3 ⊢
  clear ho3
  obtain ⟨_, _, _, _, _, _⟩ := hX3.frees
  obtain ⟨_, _, _, _, _, _⟩ := hX3.cells
  obtain ⟨_, _, _, _, _, _⟩ := hY3.frees
  obtain ⟨_, _, _, _, _, _⟩ := hY3.cells
  go_wp2_with fail
  have hZ := at6_store hY3 (.int .u16 n) (.int .i64 cy) (.int .i64 ba) (.int .i64 bd) (.int .i64 1) (.int .i64 rc)
  have hbz := hb3.trans ((store6_only w3 g2 (.int .u16 n) (.int .i64 cy) (.int .i64 ba) (.int .i64 bd) (.int .i64 1) (.int .i64 rc)).below (by omega))
  obtain ⟨d0, d1, d2, d3, d4, d5⟩ := hZ.cells
  refine bodyPost_ret (v := .tuple #[.agg #[.int .u16 n, .int .i64 cy, .int .i64 ba, .int .i64 bd, .int .i64 1, .int .i64 rc], .bool false]) (by simp [results, Try.results28, go_sem, d0, d1, d2, d3, d4, d5]) rfl ⟨rfl, by rw [HG.out]; exact hbz⟩
set_option maxHeartbeats 800000 in
theorem probe2_any (mx cy ba bd pr rc n : Int) (hq : IntKind.u16.wrap (mx + 1) = n) (hp : pr = 1) (h0 : 0 ≤ n) (h1 : n < 65536) (w : World) :
    Calls Try.prog 28 #[.agg #[.int .u16 mx, .int .i64 cy, .int .i64 ba, .int .i64 bd, .int .i64 pr, .int .i64 rc], .int .u16 n] w fun e w' => e = .returned (.tuple #[.agg #[.int .u16 n, .int .i64 0, .int .i64 n, .int .i64 65537, .int .i64 0, .int .i64 1], .bool true]) ∧ Below w.heap.size w w' := by
  subst hp
  have hX : At6 26 ((w.alloc (.cells #[.int .u16 mx, .int .i64 cy, .int .i64 ba, .int .i64 bd, .int .i64 1, .int .i64 rc] 26)).alloc (.cells #[.int .u16 0, .int .i64 0, .int .i64 0, .int .i64 0, .int .i64 0, .int .i64 0] 26)) w.heap.size (.int .u16 mx) (.int .i64 cy) (.int .i64 ba) (.int .i64 bd) (.int .i64 1) (.int .i64 rc) := (at6_new 26 w _ (.int .u16 mx) (.int .i64 cy) (.int .i64 ba) (.int .i64 bd) (.int .i64 1) (.int .i64 rc) rfl).alloc _
  have hY : At6 26 ((w.alloc (.cells #[.int .u16 mx, .int .i64 cy, .int .i64 ba, .int .i64 bd, .int .i64 1, .int .i64 rc] 26)).alloc (.cells #[.int .u16 0, .int .i64 0, .int .i64 0, .int .i64 0, .int .i64 0, .int .i64 0] 26)) (w.heap.size + 1) (.int .u16 0) (.int .i64 0) (.int .i64 0) (.int .i64 0) (.int .i64 0) (.int .i64 0) := at6_new 26 _ _ (.int .u16 0) (.int .i64 0) (.int .i64 0) (.int .i64 0) (.int .i64 0) (.int .i64 0) (by simp)
  have hb : Below w.heap.size w ((w.alloc (.cells #[.int .u16 mx, .int .i64 cy, .int .i64 ba, .int .i64 bd, .int .i64 1, .int .i64 rc] 26)).alloc (.cells #[.int .u16 0, .int .i64 0, .int .i64 0, .int .i64 0, .int .i64 0, .int .i64 0] 26)) := ((Below.refl _ _).alloc (Nat.le_refl _) _).alloc (by simp) _
  go_enter Try.func28, Try.ntmps28
  go_upto_region 1 with fail
  generalize ((w.alloc (.cells #[.int .u16 mx, .int .i64 cy, .int .i64 ba, .int .i64 bd, .int .i64 1, .int .i64 rc] 26)).alloc (.cells #[.int .u16 0, .int .i64 0, .int .i64 0, .int .i64 0, .int .i64 0, .int .i64 0] 26)) = w2 at hX hY hb ⊢
  generalize hg2 : w.heap.size + 1 = g2 at hY ⊢
  generalize hg : w.heap.size = g at hX hb hg2 ⊢
  have hne : g ≠ g2 := by omega
  have hgle : g ≤ g2 := by omega
  have HG := Lib.hid hg
  clear hg hg2
  obtain ⟨_, _, _, _, _, _⟩ := hX.frees
  obtain ⟨_, _, _, _, _, _⟩ := hX.cells
  obtain ⟨_, _, _, _, _, _⟩ := hY.frees
  obtain ⟨_, _, _, _, _, _⟩ := hY.cells
  go_upto_region 9 with fail
  have hX3 := (at6_set4 hX (.int .i64 0))
  have ho3 := ((Only.refl g w2).setCell 4 (.int .i64 0))
  have hY3 := hY.only (fun e => hne e.symm) ho3
  have hb3 := hb.trans (ho3.below (Nat.le_refl _))
  generalize (w2.setCell ⟨g, 4, none⟩ (.int .i64 0)) = w3 at hX3 hY3 hb3 ⊢
  clear ho3
  obtain ⟨_, _, _, _, _, _⟩ := hX3.frees
  obtain ⟨_, _, _, _, _, _⟩ := hX3.cells
  obtain ⟨_, _, _, _, _, _⟩ := hY3.frees
  obtain ⟨_, _, _, _, _, _⟩ := hY3.cells
  go_wp2_with fail
  refine (soAnew_any mx cy ba bd 0 rc n h0 h1 _).mono ?_
  rintro e w4 ⟨rfl, hk4⟩
  have hX4 := hX3.later hk4
  have hY4 := hY3.later hk4
  have hb4 := hb3.trans (hk4.mono (by have := hX3.lt; omega))
  obtain ⟨_, _, _, _, _, _⟩ := hX4.frees
  obtain ⟨_, _, _, _, _, _⟩ := hX4.cells
  obtain ⟨_, _, _, _, _, _⟩ := hY4.frees
  obtain ⟨_, _, _, _, _, _⟩ := hY4.cells
  go_upto_region 10 with fail
  have hX5 := at6_store hX4 (.int .u16 n) (.int .i64 0) (.int .i64 n) (.int .i64 65537) (.int .i64 0) (.int .i64 0)
  have ho5 := store6_only w4 g (.int .u16 n) (.int .i64 0) (.int .i64 n) (.int .i64 65537) (.int .i64 0) (.int .i64 0)
  have hY5 := hY4.only (fun e => hne e.symm) ho5
  have hb5 := hb4.trans (ho5.below (Nat.le_refl _))
  generalize ((((((w4.setCell ⟨g, 0, none⟩ (.int .u16 n)).setCell ⟨g, 1, none⟩ (.int .i64 0)).setCell ⟨g, 2, none⟩ (.int .i64 n)).setCell ⟨g, 3, none⟩ (.int .i64 65537)).setCell ⟨g, 4, none⟩ (.int .i64 0)).setCell ⟨g, 5, none⟩ (.int .i64 0)) = w5 at hX5 hY5 hb5 ⊢
  clear ho5
  obtain ⟨_, _, _, _, _, _⟩ := hX5.frees
  obtain ⟨_, _, _, _, _, _⟩ := hX5.cells
  obtain ⟨_, _, _, _, _, _⟩ := hY5.frees
  obtain ⟨_, _, _, _, _, _⟩ := hY5.cells
  go_upto_region 11 with fail
  have hX6 := (at6_set5 hX5 (.int .i64 1))
  have ho6 := ((Only.refl g w5).setCell 5 (.int .i64 1))
  have hY6 := hY5.only (fun e => hne e.symm) ho6
  have hb6 := hb5.trans (ho6.below (Nat.le_refl _))
  generalize (w5.setCell ⟨g, 5, none⟩ (.int .i64 1)) = w6 at hX6 hY6 hb6 ⊢
  clear ho6
  obtain ⟨_, _, _, _, _, _⟩ := hX6.frees
  obtain ⟨_, _, _, _, _, _⟩ := hX6.cells
  obtain ⟨_, _, _, _, _, _⟩ := hY6.frees
  obtain ⟨_, _, _, _, _, _⟩ := hY6.cells
  go_wp2_with fail
  have hZ := at6_store hY6 (.int .u16 n) (.int .i64 0) (.int .i64 n) (.int .i64 65537) (.int .i64 0) (.int .i64 1)
  have hbz := hb6.trans ((store6_only w6 g2 (.int .u16 n) (.int .i64 0) (.int .i64 n) (.int .i64 65537) (.int .i64 0) (.int .i64 1)).below (by omega))
  obtain ⟨d0, d1, d2, d3, d4, d5⟩ := hZ.cells
  refine bodyPost_ret (v := .tuple #[.agg #[.int .u16 n, .int .i64 0, .int .i64 n, .int .i64 65537, .int .i64 0, .int .i64 1], .bool true]) (by simp [results, Try.results28, go_sem, d0, d1, d2, d3, d4, d5]) rfl ⟨rfl, by rw [HG.out]; exact hbz⟩
set_option maxHeartbeats 800000 in
theorem probe3_any (mx cy ba bd pr rc n : Int) (hq : IntKind.u16.wrap (mx + 1) = n) (hp : 2 ≤ pr) (hp2 : pr ≤ 1000000) (w : World) :
    Calls Try.prog 28 #[.agg #[.int .u16 mx, .int .i64 cy, .int .i64 ba, .int .i64 bd, .int .i64 pr, .int .i64 rc], .int .u16 n] w fun e w' => e = .returned (.tuple #[.agg #[.int .u16 n, .int .i64 cy, .int .i64 ba, .int .i64 bd, .int .i64 (pr - 1), .int .i64 rc], .bool false]) ∧ Below w.heap.size w w' := by
  have hX : At6 26 ((w.alloc (.cells #[.int .u16 mx, .int .i64 cy, .int .i64 ba, .int .i64 bd, .int .i64 pr, .int .i64 rc] 26)).alloc (.cells #[.int .u16 0, .int .i64 0, .int .i64 0, .int .i64 0, .int .i64 0, .int .i64 0] 26)) w.heap.size (.int .u16 mx) (.int .i64 cy) (.int .i64 ba) (.int .i64 bd) (.int .i64 pr) (.int .i64 rc) := (at6_new 26 w _ (.int .u16 mx) (.int .i64 cy) (.int .i64 ba) (.int .i64 bd) (.int .i64 pr) (.int .i64 rc) rfl).alloc _
  have hY : At6 26 ((w.alloc (.cells #[.int .u16 mx, .int .i64 cy, .int .i64 ba, .int .i64 bd, .int .i64 pr, .int .i64 rc] 26)).alloc (.cells #[.int .u16 0, .int .i64 0, .int .i64 0, .int .i64 0, .int .i64 0, .int .i64 0] 26)) (w.heap.size + 1) (.int .u16 0) (.int .i64 0) (.int .i64 0) (.int .i64 0) (.int .i64 0) (.int .i64 0) := at6_new 26 _ _ (.int .u16 0) (.int .i64 0) (.int .i64 0) (.int .i64 0) (.int .i64 0) (.int .i64 0) (by simp)
  have hb : Below w.heap.size w ((w.alloc (.cells #[.int .u16 mx, .int .i64 cy, .int .i64 ba, .int .i64 bd, .int .i64 pr, .int .i64 rc] 26)).alloc (.cells #[.int .u16 0, .int .i64 0, .int .i64 0, .int .i64 0, .int .i64 0, .int .i64 0] 26)) := ((Below.refl _ _).alloc (Nat.le_refl _) _).alloc (by simp) _
  go_enter Try.func28, Try.ntmps28
  go_upto_region 1 with fail
  generalize ((w.alloc (.cells #[.int .u16 mx, .int .i64 cy, .int .i64 ba, .int .i64 bd, .int .i64 pr, .int .i64 rc] 26)).alloc (.cells #[.int .u16 0, .int .i64 0, .int .i64 0, .int .i64 0, .int .i64 0, .int .i64 0] 26)) = w2 at hX hY hb ⊢
  generalize hg2 : w.heap.size + 1 = g2 at hY ⊢
  generalize hg : w.heap.size = g at hX hb hg2 ⊢
  have hne : g ≠ g2 := by omega
  have hgle : g ≤ g2 := by omega
  have HG := Lib.hid hg
  clear hg hg2
  obtain ⟨_, _, _, _, _, _⟩ := hX.frees
  obtain ⟨_, _, _, _, _, _⟩ := hX.cells
  obtain ⟨_, _, _, _, _, _⟩ := hY.frees
  obtain ⟨_, _, _, _, _, _⟩ := hY.cells
  go_upto_region 8 with fail
  have hX3 := (at6_set0 (at6_set4 hX (.int .i64 (pr - 1))) (.int .u16 n))
  have ho3 := (((Only.refl g w2).setCell 4 (.int .i64 (pr - 1))).setCell 0 (.int .u16 n))
  have hY3 := hY.only (fun e => hne e.symm) ho3
  have hb3 := hb.trans (ho3.below (Nat.le_refl _))
  generalize ((w2.setCell ⟨g, 4, none⟩ (.int .i64 (pr - 1))).setCell ⟨g, 0, none⟩ (.int .u16 n)) = w3 at hX3 hY3 hb3 ⊢
  clear ho3
  obtain ⟨_, _, _, _, _, _⟩ := hX3.frees
  obtain ⟨_, _, _, _, _, _⟩ := hX3.cells
  obtain ⟨_, _, _, _, _, _⟩ := hY3.frees
  obtain ⟨_, _, _, _, _, _⟩ := hY3.cells
  go_wp2_with fail
  have hZ := at6_store hY3 (.int .u16 n) (.int .i64 cy) (.int .i64 ba) (.int .i64 bd) (.int .i64 (pr - 1)) (.int .i64 rc)
  have hbz := hb3.trans ((store6_only w3 g2 (.int .u16 n) (.int .i64 cy) (.int .i64 ba) (.int .i64 bd) (.int .i64 (pr - 1)) (.int .i64 rc)).below (by omega))
  obtain ⟨d0, d1, d2, d3, d4, d5⟩ := hZ.cells
  refine bodyPost_ret (v := .tuple #[.agg #[.int .u16 n, .int .i64 cy, .int .i64 ba, .int .i64 bd, .int .i64 (pr - 1), .int .i64 rc], .bool false]) (by simp [results, Try.results28, go_sem, d0, d1, d2, d3, d4, d5]) rfl ⟨rfl, by rw [HG.out]; exact hbz⟩
set_option maxHeartbeats 800000 in
theorem soUpd1_any (mx cy ba bd pr rc n : Int) (q : Int) (hq : IntKind.u16.wrap (mx + 1) = q) (hn : (n != q) = true) (hp : 0 < pr) (w : World) :
    Calls Try.prog 12 #[.agg #[.int .u16 mx, .int .i64 cy, .int .i64 ba, .int .i64 bd, .int .i64 pr, .int .i64 rc], .int .u16 n] w fun e w' => e = .returned (.tuple #[.agg #[.int .u16 n, .int .i64 cy, .int .i64 ba, .int .i64 bd, .int .i64 1, .int .i64 rc], .bool false]) ∧ Below w.heap.size w w' := by
  have hX : At6 26 ((w.alloc (.cells #[.int .u16 mx, .int .i64 cy, .int .i64 ba, .int .i64 bd, .int .i64 pr, .int .i64 rc] 26)).alloc (.cells #[.int .u16 0, .int .i64 0, .int .i64 0, .int .i64 0, .int .i64 0, .int .i64 0] 26)) w.heap.size (.int .u16 mx) (.int .i64 cy) (.int .i64 ba) (.int .i64 bd) (.int .i64 pr) (.int .i64 rc) := (at6_new 26 w _ (.int .u16 mx) (.int .i64 cy) (.int .i64 ba) (.int .i64 bd) (.int .i64 pr) (.int .i64 rc) rfl).alloc _
  have hY : At6 26 ((w.alloc (.cells #[.int .u16 mx, .int .i64 cy, .int .i64 ba, .int .i64 bd, .int .i64 pr, .int .i64 rc] 26)).alloc (.cells #[.int .u16 0, .int .i64 0, .int .i64 0, .int .i64 0, .int .i64 0, .int .i64 0] 26)) (w.heap.size + 1) (.int .u16 0) (.int .i64 0) (.int .i64 0) (.int .i64 0) (.int .i64 0) (.int .i64 0) := at6_new 26 _ _ (.int .u16 0) (.int .i64 0) (.int .i64 0) (.int .i64 0) (.int .i64 0) (.int .i64 0) (by simp)
  have hb : Below w.heap.size w ((w.alloc (.cells #[.int .u16 mx, .int .i64 cy, .int .i64 ba, .int .i64 bd, .int .i64 pr, .int .i64 rc] 26)).alloc (.cells #[.int .u16 0, .int .i64 0, .int .i64 0, .int .i64 0, .int .i64 0, .int .i64 0] 26)) := ((Below.refl _ _).alloc (Nat.le_refl _) _).alloc (by simp) _
  go_enter Try.func12, Try.ntmps12
  go_upto_region 1 with fail
  generalize ((w.alloc (.cells #[.int .u16 mx, .int .i64 cy, .int .i64 ba, .int .i64 bd, .int .i64 pr, .int .i64 rc] 26)).alloc (.cells #[.int .u16 0, .int .i64 0, .int .i64 0, .int .i64 0, .int .i64 0, .int .i64 0] 26)) = w2 at hX hY hb ⊢
  generalize hg2 : w.heap.size + 1 = g2 at hY ⊢
  generalize hg : w.heap.size = g at hX hb hg2 ⊢
  have hne : g ≠ g2 := by omega
  have hgle : g ≤ g2 := by omega
  have HG := Lib.hid hg
  clear hg hg2
  obtain ⟨_, _, _, _, _, _⟩ := hX.frees
  obtain ⟨_, _, _, _, _, _⟩ := hX.cells
  obtain ⟨_, _, _, _, _, _⟩ := hY.frees
  obtain ⟨_, _, _, _, _, _⟩ := hY.cells
  go_wp2_with fail
  refine (probe1_any mx cy ba bd pr rc n q hq hn _).mono ?_
  rintro e w3 ⟨rfl, hk3⟩
  have hX3 := hX.later hk3
  have hY3 := hY.later hk3
  have hb3 := hb.trans (hk3.mono (by have := hX.lt; omega))
  obtain ⟨_, _, _, _, _, _⟩ := hX3.frees
  obtain ⟨_, _, _, _, _, _⟩ := hX3.cells
  obtain ⟨_, _, _, _, _, _⟩ := hY3.frees
  obtain ⟨_, _, _, _, _, _⟩ := hY3.cells
  go_wp2_with fail
  have hZ := at6_store hY3 (.int .u16 n) (.int .i64 cy) (.int .i64 ba) (.int .i64 bd) (.int .i64 1) (.int .i64 rc)
  have hbz := hb3.trans ((store6_only w3 g2 (.int .u16 n) (.int .i64 cy) (.int .i64 ba) (.int .i64 bd) (.int .i64 1) (.int .i64 rc)).below (by omega))
  obtain ⟨d0, d1, d2, d3, d4, d5⟩ := hZ.cells
  refine bodyPost_ret (v := .tuple #[.agg #[.int .u16 n, .int .i64 cy, .int .i64 ba, .int .i64 bd, .int .i64 1, .int .i64 rc], .bool false]) (by simp [results, Try.results12, go_sem, d0, d1, d2, d3, d4, d5]) rfl ⟨rfl, by rw [HG.out]; exact hbz⟩
set_option maxHeartbeats 800000 in
theorem soUpd2_any (mx cy ba bd pr rc n : Int) (hq : IntKind.u16.wrap (mx + 1) = n) (hp : pr = 1) (h0 : 0 ≤ n) (h1 : n < 65536) (w : World) :
    Calls Try.prog 12 #[.agg #[.int .u16 mx, .int .i64 cy, .int .i64 ba, .int .i64 bd, .int .i64 pr, .int .i64 rc], .int .u16 n] w fun e w' => e = .returned (.tuple #[.agg #[.int .u16 n, .int .i64 0, .int .i64 n, .int .i64 65537, .int .i64 0, .int .i64 1], .bool true]) ∧ Below w.heap.size w w' := by
  subst hp
  have hX : At6 26 ((w.alloc (.cells #[.int .u16 mx, .int .i64 cy, .int .i64 ba, .int .i64 bd, .int .i64 1, .int .i64 rc] 26)).alloc (.cells #[.int .u16 0, .int .i64 0, .int .i64 0, .int .i64 0, .int .i64 0, .int .i64 0] 26)) w.heap.size (.int .u16 mx) (.int .i64 cy) (.int .i64 ba) (.int .i64 bd) (.int .i64 1) (.int .i64 rc) := (at6_new 26 w _ (.int .u16 mx) (.int .i64 cy) (.int .i64 ba) (.int .i64 bd) (.int .i64 1) (.int .i64 rc) rfl).alloc _
  have hY : At6 26 ((w.alloc (.cells #[.int .u16 mx, .int .i64 cy, .int .i64 ba, .int .i64 bd, .int .i64 1, .int .i64 rc] 26)).alloc (.cells #[.int .u16 0, .int .i64 0, .int .i64 0, .int .i64 0, .int .i64 0, .int .i64 0] 26)) (w.heap.size + 1) (.int .u16 0) (.int .i64 0) (.int .i64 0) (.int .i64 0) (.int .i64 0) (.int .i64 0) := at6_new 26 _ _ (.int .u16 0) (.int .i64 0) (.int .i64 0) (.int .i64 0) (.int .i64 0) (.int .i64 0) (by simp)
  have hb : Below w.heap.size w ((w.alloc (.cells #[.int .u16 mx, .int .i64 cy, .int .i64 ba, .int .i64 bd, .int .i64 1, .int .i64 rc] 26)).alloc (.cells #[.int .u16 0, .int .i64 0, .int .i64 0, .int .i64 0, .int .i64 0, .int .i64 0] 26)) := ((Below.refl _ _).alloc (Nat.le_refl _) _).alloc (by simp) _
  go_enter Try.func12, Try.ntmps12
  go_upto_region 1 with fail
  generalize ((w.alloc (.cells #[.int .u16 mx, .int .i64 cy, .int .i64 ba, .int .i64 bd, .int .i64 1, .int .i64 rc] 26)).alloc (.cells #[.int .u16 0, .int .i64 0, .int .i64 0, .int .i64 0, .int .i64 0, .int .i64 0] 26)) = w2 at hX hY hb ⊢
  generalize hg2 : w.heap.size + 1 = g2 at hY ⊢
  generalize hg : w.heap.size = g at hX hb hg2 ⊢
  have hne : g ≠ g2 := by omega
  have hgle : g ≤ g2 := by omega
  have HG := Lib.hid hg
  clear hg hg2
  obtain ⟨_, _, _, _, _, _⟩ := hX.frees
  obtain ⟨_, _, _, _, _, _⟩ := hX.cells
  obtain ⟨_, _, _, _, _, _⟩ := hY.frees
  obtain ⟨_, _, _, _, _, _⟩ := hY.cells
  go_wp2_with fail
  refine (probe2_any mx cy ba bd 1 rc n hq rfl h0 h1 _).mono ?_
  rintro e w3 ⟨rfl, hk3⟩
  have hX3 := hX.later hk3
  have hY3 := hY.later hk3
  have hb3 := hb.trans (hk3.mono (by have := hX.lt; omega))
  obtain ⟨_, _, _, _, _, _⟩ := hX3.frees
  obtain ⟨_, _, _, _, _, _⟩ := hX3.cells
  obtain ⟨_, _, _, _, _, _⟩ := hY3.frees
  obtain ⟨_, _, _, _, _, _⟩ := hY3.cells
  go_wp2_with fail
  have hZ := at6_store hY3 (.int .u16 n) (.int .i64 0) (.int .i64 n) (.int .i64 65537) (.int .i64 0) (.int .i64 1)
  have hbz := hb3.trans ((store6_only w3 g2 (.int .u16 n) (.int .i64 0) (.int .i64 n) (.int .i64 65537) (.int .i64 0) (.int .i64 1)).below (by omega))
  obtain ⟨d0, d1, d2, d3, d4, d5⟩ := hZ.cells
  refine bodyPost_ret (v := .tuple #[.agg #[.int .u16 n, .int .i64 0, .int .i64 n, .int .i64 65537, .int .i64 0, .int .i64 1], .bool true]) (by simp [results, Try.results12, go_sem, d0, d1, d2, d3, d4, d5]) rfl ⟨rfl, by rw [HG.out]; exact hbz⟩
set_option maxHeartbeats 800000 in
theorem soUpd3_any (mx cy ba bd pr rc n : Int) (hq : IntKind.u16.wrap (mx + 1) = n) (hp : 2 ≤ pr) (hp2 : pr ≤ 1000000) (w : World) :
    Calls Try.prog 12 #[.agg #[.int .u16 mx, .int .i64 cy, .int .i64 ba, .int .i64 bd, .int .i64 pr, .int .i64 rc], .int .u16 n] w fun e w' => e = .returned (.tuple #[.agg #[.int .u16 n, .int .i64 cy, .int .i64 ba, .int .i64 bd, .int .i64 (pr - 1), .int .i64 rc], .bool false]) ∧ Below w.heap.size w w' := by
  have hX : At6 26 ((w.alloc (.cells #[.int .u16 mx, .int .i64 cy, .int .i64 ba, .int .i64 bd, .int .i64 pr, .int .i64 rc] 26)).alloc (.cells #[.int .u16 0, .int .i64 0, .int .i64 0, .int .i64 0, .int .i64 0, .int .i64 0] 26)) w.heap.size (.int .u16 mx) (.int .i64 cy) (.int .i64 ba) (.int .i64 bd) (.int .i64 pr) (.int .i64 rc) := (at6_new 26 w _ (.int .u16 mx) (.int .i64 cy) (.int .i64 ba) (.int .i64 bd) (.int .i64 pr) (.int .i64 rc) rfl).alloc _
  have hY : At6 26 ((w.alloc (.cells #[.int .u16 mx, .int .i64 cy, .int .i64 ba, .int .i64 bd, .int .i64 pr, .int .i64 rc] 26)).alloc (.cells #[.int .u16 0, .int .i64 0, .int .i64 0, .int .i64 0, .int .i64 0, .int .i64 0] 26)) (w.heap.size + 1) (.int .u16 0) (.int .i64 0) (.int .i64 0) (.int .i64 0) (.int .i64 0) (.int .i64 0) := at6_new 26 _ _ (.int .u16 0) (.int .i64 0) (.int .i64 0) (.int .i64 0) (.int .i64 0) (.int .i64 0) (by simp)
  have hb : Below w.heap.size w ((w.alloc (.cells #[.int .u16 mx, .int .i64 cy, .int .i64 ba, .int .i64 bd, .int .i64 pr, .int .i64 rc] 26)).alloc (.cells #[.int .u16 0, .int .i64 0, .int .i64 0, .int .i64 0, .int .i64 0, .int .i64 0] 26)) := ((Below.refl _ _).alloc (Nat.le_refl _) _).alloc (by simp) _
  go_enter Try.func12, Try.ntmps12
  go_upto_region 1 with fail
  generalize ((w.alloc (.cells #[.int .u16 mx, .int .i64 cy, .int .i64 ba, .int .i64 bd, .int .i64 pr, .int .i64 rc] 26)).alloc (.cells #[.int .u16 0, .int .i64 0, .int .i64 0, .int .i64 0, .int .i64 0, .int .i64 0] 26)) = w2 at hX hY hb ⊢
  generalize hg2 : w.heap.size + 1 = g2 at hY ⊢
  generalize hg : w.heap.size = g at hX hb hg2 ⊢
  have hne : g ≠ g2 := by omega
  have hgle : g ≤ g2 := by omega
  have HG := Lib.hid hg
  clear hg hg2
  obtain ⟨_, _, _, _, _, _⟩ := hX.frees
  obtain ⟨_, _, _, _, _, _⟩ := hX.cells
  obtain ⟨_, _, _, _, _, _⟩ := hY.frees
  obtain ⟨_, _, _, _, _, _⟩ := hY.cells
  go_wp2_with fail
  refine (probe3_any mx cy ba bd pr rc n hq hp hp2 _).mono ?_
  rintro e w3 ⟨rfl, hk3⟩
  have hX3 := hX.later hk3
  have hY3 := hY.later hk3
  have hb3 := hb.trans (hk3.mono (by have := hX.lt; omega))
  obtain ⟨_, _, _, _, _, _⟩ := hX3.frees
  obtain ⟨_, _, _, _, _, _⟩ := hX3.cells
  obtain ⟨_, _, _, _, _, _⟩ := hY3.frees
  obtain ⟨_, _, _, _, _, _⟩ := hY3.cells
  go_wp2_with fail
  have hZ := at6_store hY3 (.int .u16 n) (.int .i64 cy) (.int .i64 ba) (.int .i64 bd) (.int .i64 (pr - 1)) (.int .i64 rc)
  have hbz := hb3.trans ((store6_only w3 g2 (.int .u16 n) (.int .i64 cy) (.int .i64 ba) (.int .i64 bd) (.int .i64 (pr - 1)) (.int .i64 rc)).below (by omega))
  obtain ⟨d0, d1, d2, d3, d4, d5⟩ := hZ.cells
  refine bodyPost_ret (v := .tuple #[.agg #[.int .u16 n, .int .i64 cy, .int .i64 ba, .int .i64 bd, .int .i64 (pr - 1), .int .i64 rc], .bool false]) (by simp [results, Try.results12, go_sem, d0, d1, d2, d3, d4, d5]) rfl ⟨rfl, by rw [HG.out]; exact hbz⟩
set_option maxHeartbeats 800000 in
theorem soUpd4_any (mx cy ba bd pr rc n : Int) (a : Int) (ha : IntKind.u16.wrap (n - mx) = a) (a0 : 0 ≤ a) (a1 : a < 65536) (hp : pr ≤ 0) (r0 : 0 ≤ rc) (r1 : rc ≤ 1000000000000000000) (hc0 : 0 ≤ cy) (hc1 : cy ≤ 9000000000000000000) (hf : a < 3000) (hl : n < mx) (w : World) :
    Calls Try.prog 12 #[.agg #[.int .u16 mx, .int .i64 cy, .int .i64 ba, .int .i64 bd, .int .i64 pr, .int .i64 rc], .int .u16 n] w fun e w' => e = .returned (.tuple #[.agg #[.int .u16 n, .int .i64 (cy + 65536), .int .i64 ba, .int .i64 bd, .int .i64 pr, .int .i64 (rc + 1)], .bool true]) ∧ Below w.heap.size w w' := by
  have hai := i64_16 a a0 a1
  have hr1 : IntKind.i64.wrap (rc + 1) = rc + 1 := IntWalk.i64_in _ ⟨by omega, by omega⟩
  have hX : At6 26 ((w.alloc (.cells #[.int .u16 mx, .int .i64 cy, .int .i64 ba, .int .i64 bd, .int .i64 pr, .int .i64 rc] 26)).alloc (.cells #[.int .u16 0, .int .i64 0, .int .i64 0, .int .i64 0, .int .i64 0, .int .i64 0] 26)) w.heap.size (.int .u16 mx) (.int .i64 cy) (.int .i64 ba) (.int .i64 bd) (.int .i64 pr) (.int .i64 rc) := (at6_new 26 w _ (.int .u16 mx) (.int .i64 cy) (.int .i64 ba) (.int .i64 bd) (.int .i64 pr) (.int .i64 rc) rfl).alloc _
  have hY : At6 26 ((w.alloc (.cells #[.int .u16 mx, .int .i64 cy, .int .i64 ba, .int .i64 bd, .int .i64 pr, .int .i64 rc] 26)).alloc (.cells #[.int .u16 0, .int .i64 0, .int .i64 0, .int .i64 0, .int .i64 0, .int .i64 0] 26)) (w.heap.size + 1) (.int .u16 0) (.int .i64 0) (.int .i64 0) (.int .i64 0) (.int .i64 0) (.int .i64 0) := at6_new 26 _ _ (.int .u16 0) (.int .i64 0) (.int .i64 0) (.int .i64 0) (.int .i64 0) (.int .i64 0) (by simp)
  have hb : Below w.heap.size w ((w.alloc (.cells #[.int .u16 mx, .int .i64 cy, .int .i64 ba, .int .i64 bd, .int .i64 pr, .int .i64 rc] 26)).alloc (.cells #[.int .u16 0, .int .i64 0, .int .i64 0, .int .i64 0, .int .i64 0, .int .i64 0] 26)) := ((Below.refl _ _).alloc (Nat.le_refl _) _).alloc (by simp) _
  go_enter Try.func12, Try.ntmps12
  go_upto_region 1 with fail
  generalize ((w.alloc (.cells #[.int .u16 mx, .int .i64 cy, .int .i64 ba, .int .i64 bd, .int .i64 pr, .int .i64 rc] 26)).alloc (.cells #[.int .u16 0, .int .i64 0, .int .i64 0, .int .i64 0, .int .i64 0, .int .i64 0] 26)) = w2 at hX hY hb ⊢
  generalize hg2 : w.heap.size + 1 = g2 at hY ⊢
  generalize hg : w.heap.size = g at hX hb hg2 ⊢
  have hne : g ≠ g2 := by omega
  have hgle : g ≤ g2 := by omega
  have HG := Lib.hid hg
  clear hg hg2
  obtain ⟨_, _, _, _, _, _⟩ := hX.frees
  obtain ⟨_, _, _, _, _, _⟩ := hX.cells
  obtain ⟨_, _, _, _, _, _⟩ := hY.frees
  obtain ⟨_, _, _, _, _, _⟩ := hY.cells
  go_wp2_with fail
  refine (soAdv1_any mx cy ba bd pr rc n hl hc0 hc1 _).mono ?_
  rintro e w3 ⟨rfl, hk3⟩
  have hX3 := hX.later hk3
  have hY3 := hY.later hk3
  have hb3 := hb.trans (hk3.mono (by have := hX.lt; omega))
  obtain ⟨_, _, _, _, _, _⟩ := hX3.frees
  obtain ⟨_, _, _, _, _, _⟩ := hX3.cells
  obtain ⟨_, _, _, _, _, _⟩ := hY3.frees
  obtain ⟨_, _, _, _, _, _⟩ := hY3.cells
  go_upto_region 11 with fail
  have hX4 := at6_store hX3 (.int .u16 n) (.int .i64 (cy + 65536)) (.int .i64 ba) (.int .i64 bd) (.int .i64 pr) (.int .i64 rc)
  have ho4 := store6_only w3 g (.int .u16 n) (.int .i64 (cy + 65536)) (.int .i64 ba) (.int .i64 bd) (.int .i64 pr) (.int .i64 rc)
  have hY4 := hY3.only (fun e => hne e.symm) ho4
  have hb4 := hb3.trans (ho4.below (Nat.le_refl _))
  generalize ((((((w3.setCell ⟨g, 0, none⟩ (.int .u16 n)).setCell ⟨g, 1, none⟩ (.int .i64 (cy + 65536))).setCell ⟨g, 2, none⟩ (.int .i64 ba)).setCell ⟨g, 3, none⟩ (.int .i64 bd)).setCell ⟨g, 4, none⟩ (.int .i64 pr)).setCell ⟨g, 5, none⟩ (.int .i64 rc)) = w4 at hX4 hY4 hb4 ⊢
  clear ho4
  obtain ⟨_, _, _, _, _, _⟩ := hX4.frees
  obtain ⟨_, _, _, _, _, _⟩ := hX4.cells
  obtain ⟨_, _, _, _, _, _⟩ := hY4.frees
  obtain ⟨_, _, _, _, _, _⟩ := hY4.cells
  go_upto_region 12 with fail
  have hX5 := (at6_set5 hX4 (.int .i64 (rc + 1)))
  have ho5 := ((Only.refl g w4).setCell 5 (.int .i64 (rc + 1)))
  have hY5 := hY4.only (fun e => hne e.symm) ho5
  have hb5 := hb4.trans (ho5.below (Nat.le_refl _))
  generalize (w4.setCell ⟨g, 5, none⟩ (.int .i64 (rc + 1))) = w5 at hX5 hY5 hb5 ⊢
  clear ho5
  obtain ⟨_, _, _, _, _, _⟩ := hX5.frees
  obtain ⟨_, _, _, _, _, _⟩ := hX5.cells
  obtain ⟨_, _, _, _, _, _⟩ := hY5.frees
  obtain ⟨_, _, _, _, _, _⟩ := hY5.cells
  go_wp2_with fail
  have hZ := at6_store hY5 (.int .u16 n) (.int .i64 (cy + 65536)) (.int .i64 ba) (.int .i64 bd) (.int .i64 pr) (.int .i64 (rc + 1))
  have hbz := hb5.trans ((store6_only w5 g2 (.int .u16 n) (.int .i64 (cy + 65536)) (.int .i64 ba) (.int .i64 bd) (.int .i64 pr) (.int .i64 (rc + 1))).below (by omega))
  obtain ⟨d0, d1, d2, d3, d4, d5⟩ := hZ.cells
  refine bodyPost_ret (v := .tuple #[.agg #[.int .u16 n, .int .i64 (cy + 65536), .int .i64 ba, .int .i64 bd, .int .i64 pr, .int .i64 (rc + 1)], .bool true]) (by simp [results, Try.results12, go_sem, d0, d1, d2, d3, d4, d5]) rfl ⟨rfl, by rw [HG.out]; exact hbz⟩
set_option maxHeartbeats 800000 in
theorem soUpd5_any (mx cy ba bd pr rc n : Int) (a : Int) (ha : IntKind.u16.wrap (n - mx) = a) (a0 : 0 ≤ a) (a1 : a < 65536) (hp : pr ≤ 0) (r0 : 0 ≤ rc) (r1 : rc ≤ 1000000000000000000) (hc0 : 0 ≤ cy) (hc1 : cy ≤ 9000000000000000000) (hf : a < 3000) (hl : mx ≤ n) (w : World) :
    Calls Try.prog 12 #[.agg #[.int .u16 mx, .int .i64 cy, .int .i64 ba, .int .i64 bd, .int .i64 pr, .int .i64 rc], .int .u16 n] w fun e w' => e = .returned (.tuple #[.agg #[.int .u16 n, .int .i64 cy, .int .i64 ba, .int .i64 bd, .int .i64 pr, .int .i64 (rc + 1)], .bool true]) ∧ Below w.heap.size w w' := by
  have hai := i64_16 a a0 a1
  have hr1 : IntKind.i64.wrap (rc + 1) = rc + 1 := IntWalk.i64_in _ ⟨by omega, by omega⟩
  have hX : At6 26 ((w.alloc (.cells #[.int .u16 mx, .int .i64 cy, .int .i64 ba, .int .i64 bd, .int .i64 pr, .int .i64 rc] 26)).alloc (.cells #[.int .u16 0, .int .i64 0, .int .i64 0, .int .i64 0, .int .i64 0, .int .i64 0] 26)) w.heap.size (.int .u16 mx) (.int .i64 cy) (.int .i64 ba) (.int .i64 bd) (.int .i64 pr) (.int .i64 rc) := (at6_new 26 w _ (.int .u16 mx) (.int .i64 cy) (.int .i64 ba) (.int .i64 bd) (.int .i64 pr) (.int .i64 rc) rfl).alloc _
  have hY : At6 26 ((w.alloc (.cells #[.int .u16 mx, .int .i64 cy, .int .i64 ba, .int .i64 bd, .int .i64 pr, .int .i64 rc] 26)).alloc (.cells #[.int .u16 0, .int .i64 0, .int .i64 0, .int .i64 0, .int .i64 0, .int .i64 0] 26)) (w.heap.size + 1) (.int .u16 0) (.int .i64 0) (.int .i64 0) (.int .i64 0) (.int .i64 0) (.int .i64 0) := at6_new 26 _ _ (.int .u16 0) (.int .i64 0) (.int .i64 0) (.int .i64 0) (.int .i64 0) (.int .i64 0) (by simp)
  have hb : Below w.heap.size w ((w.alloc (.cells #[.int .u16 mx, .int .i64 cy, .int .i64 ba, .int .i64 bd, .int .i64 pr, .int .i64 rc] 26)).alloc (.cells #[.int .u16 0, .int .i64 0, .int .i64 0, .int .i64 0, .int .i64 0, .int .i64 0] 26)) := ((Below.refl _ _).alloc (Nat.le_refl _) _).alloc (by simp) _
  go_enter Try.func12, Try.ntmps12
  go_upto_region 1 with fail
  generalize ((w.alloc (.cells #[.int .u16 mx, .int .i64 cy, .int .i64 ba, .int .i64 bd, .int .i64 pr, .int .i64 rc] 26)).alloc (.cells #[.int .u16 0, .int .i64 0, .int .i64 0, .int .i64 0, .int .i64 0, .int .i64 0] 26)) = w2 at hX hY hb ⊢
  generalize hg2 : w.heap.size + 1 = g2 at hY ⊢
  generalize hg : w.heap.size = g at hX hb hg2 ⊢
  have hne : g ≠ g2 := by omega
  have hgle : g ≤ g2 := by omega
  have HG := Lib.hid hg
  clear hg hg2
  obtain ⟨_, _, _, _, _, _⟩ := hX.frees
  obtain ⟨_, _, _, _, _, _⟩ := hX.cells
  obtain ⟨_, _, _, _, _, _⟩ := hY.frees
  obtain ⟨_, _, _, _, _, _⟩ := hY.cells
  go_wp2_with fail
  refine (soAdv0_any mx cy ba bd pr rc n hl hc0 hc1 _).mono ?_
  rintro e w3 ⟨rfl, hk3⟩
  have hX3 := hX.later hk3
  have hY3 := hY.later hk3
  have hb3 := hb.trans (hk3.mono (by have := hX.lt; omega))
  obtain ⟨_, _, _, _, _, _⟩ := hX3.frees
  obtain ⟨_, _, _, _, _, _⟩ := hX3.cells
  obtain ⟨_, _, _, _, _, _⟩ := hY3.frees
  obtain ⟨_, _, _, _, _, _⟩ := hY3.cells
  go_upto_region 11 with fail
  have hX4 := at6_store hX3 (.int .u16 n) (.int .i64 cy) (.int .i64 ba) (.int .i64 bd) (.int .i64 pr) (.int .i64 rc)
  have ho4 := store6_only w3 g (.int .u16 n) (.int .i64 cy) (.int .i64 ba) (.int .i64 bd) (.int .i64 pr) (.int .i64 rc)
  have hY4 := hY3.only (fun e => hne e.symm) ho4
  have hb4 := hb3.trans (ho4.below (Nat.le_refl _))
  generalize ((((((w3.setCell ⟨g, 0, none⟩ (.int .u16 n)).setCell ⟨g, 1, none⟩ (.int .i64 cy)).setCell ⟨g, 2, none⟩ (.int .i64 ba)).setCell ⟨g, 3, none⟩ (.int .i64 bd)).setCell ⟨g, 4, none⟩ (.int .i64 pr)).setCell ⟨g, 5, none⟩ (.int .i64 rc)) = w4 at hX4 hY4 hb4 ⊢
  clear ho4
  obtain ⟨_, _, _, _, _, _⟩ := hX4.frees
  obtain ⟨_, _, _, _, _, _⟩ := hX4.cells
  obtain ⟨_, _, _, _, _, _⟩ := hY4.frees
  obtain ⟨_, _, _, _, _, _⟩ := hY4.cells
  go_upto_region 12 with fail
  have hX5 := (at6_set5 hX4 (.int .i64 (rc + 1)))
  have ho5 := ((Only.refl g w4).setCell 5 (.int .i64 (rc + 1)))
  have hY5 := hY4.only (fun e => hne e.symm) ho5
  have hb5 := hb4.trans (ho5.below (Nat.le_refl _))
  generalize (w4.setCell ⟨g, 5, none⟩ (.int .i64 (rc + 1))) = w5 at hX5 hY5 hb5 ⊢
  clear ho5
  obtain ⟨_, _, _, _, _, _⟩ := hX5.frees
  obtain ⟨_, _, _, _, _, _⟩ := hX5.cells
  obtain ⟨_, _, _, _, _, _⟩ := hY5.frees
  obtain ⟨_, _, _, _, _, _⟩ := hY5.cells
  go_wp2_with fail
  have hZ := at6_store hY5 (.int .u16 n) (.int .i64 cy) (.int .i64 ba) (.int .i64 bd) (.int .i64 pr) (.int .i64 (rc + 1))
  have hbz := hb5.trans ((store6_only w5 g2 (.int .u16 n) (.int .i64 cy) (.int .i64 ba) (.int .i64 bd) (.int .i64 pr) (.int .i64 (rc + 1))).below (by omega))
  obtain ⟨d0, d1, d2, d3, d4, d5⟩ := hZ.cells
  refine bodyPost_ret (v := .tuple #[.agg #[.int .u16 n, .int .i64 cy, .int .i64 ba, .int .i64 bd, .int .i64 pr, .int .i64 (rc + 1)], .bool true]) (by simp [results, Try.results12, go_sem, d0, d1, d2, d3, d4, d5]) rfl ⟨rfl, by rw [HG.out]; exact hbz⟩
set_option maxHeartbeats 800000 in
theorem soUpd6_any (mx cy ba bd pr rc n : Int) (a : Int) (ha : IntKind.u16.wrap (n - mx) = a) (a0 : 0 ≤ a) (a1 : a < 65536) (hp : pr ≤ 0) (r0 : 0 ≤ rc) (r1 : rc ≤ 1000000000000000000) (hf : 3000 ≤ a) (hl : 65436 < a) (w : World) :
    Calls Try.prog 12 #[.agg #[.int .u16 mx, .int .i64 cy, .int .i64 ba, .int .i64 bd, .int .i64 pr, .int .i64 rc], .int .u16 n] w fun e w' => e = .returned (.tuple #[.agg #[.int .u16 mx, .int .i64 cy, .int .i64 ba, .int .i64 bd, .int .i64 pr, .int .i64 (rc + 1)], .bool true]) ∧ Below w.heap.size w w' := by
  have hai := i64_16 a a0 a1
  have hr1 : IntKind.i64.wrap (rc + 1) = rc + 1 := IntWalk.i64_in _ ⟨by omega, by omega⟩
  have hX : At6 26 ((w.alloc (.cells #[.int .u16 mx, .int .i64 cy, .int .i64 ba, .int .i64 bd, .int .i64 pr, .int .i64 rc] 26)).alloc (.cells #[.int .u16 0, .int .i64 0, .int .i64 0, .int .i64 0, .int .i64 0, .int .i64 0] 26)) w.heap.size (.int .u16 mx) (.int .i64 cy) (.int .i64 ba) (.int .i64 bd) (.int .i64 pr) (.int .i64 rc) := (at6_new 26 w _ (.int .u16 mx) (.int .i64 cy) (.int .i64 ba) (.int .i64 bd) (.int .i64 pr) (.int .i64 rc) rfl).alloc _
  have hY : At6 26 ((w.alloc (.cells #[.int .u16 mx, .int .i64 cy, .int .i64 ba, .int .i64 bd, .int .i64 pr, .int .i64 rc] 26)).alloc (.cells #[.int .u16 0, .int .i64 0, .int .i64 0, .int .i64 0, .int .i64 0, .int .i64 0] 26)) (w.heap.size + 1) (.int .u16 0) (.int .i64 0) (.int .i64 0) (.int .i64 0) (.int .i64 0) (.int .i64 0) := at6_new 26 _ _ (.int .u16 0) (.int .i64 0) (.int .i64 0) (.int .i64 0) (.int .i64 0) (.int .i64 0) (by simp)
  have hb : Below w.heap.size w ((w.alloc (.cells #[.int .u16 mx, .int .i64 cy, .int .i64 ba, .int .i64 bd, .int .i64 pr, .int .i64 rc] 26)).alloc (.cells #[.int .u16 0, .int .i64 0, .int .i64 0, .int .i64 0, .int .i64 0, .int .i64 0] 26)) := ((Below.refl _ _).alloc (Nat.le_refl _) _).alloc (by simp) _
  go_enter Try.func12, Try.ntmps12
  go_upto_region 1 with fail
  generalize ((w.alloc (.cells #[.int .u16 mx, .int .i64 cy, .int .i64 ba, .int .i64 bd, .int .i64 pr, .int .i64 rc] 26)).alloc (.cells #[.int .u16 0, .int .i64 0, .int .i64 0, .int .i64 0, .int .i64 0, .int .i64 0] 26)) = w2 at hX hY hb ⊢
  generalize hg2 : w.heap.size + 1 = g2 at hY ⊢
  generalize hg : w.heap.size = g at hX hb hg2 ⊢
  have hne : g ≠ g2 := by omega
  have hgle : g ≤ g2 := by omega
  have HG := Lib.hid hg
  clear hg hg2
  obtain ⟨_, _, _, _, _, _⟩ := hX.frees
  obtain ⟨_, _, _, _, _, _⟩ := hX.cells
  obtain ⟨_, _, _, _, _, _⟩ := hY.frees
  obtain ⟨_, _, _, _, _, _⟩ := hY.cells
  go_upto_region 12 with fail
  have hX3 := (at6_set5 hX (.int .i64 (rc + 1)))
  have ho3 := ((Only.refl g w2).setCell 5 (.int .i64 (rc + 1)))
  have hY3 := hY.only (fun e => hne e.symm) ho3
  have hb3 := hb.trans (ho3.below (Nat.le_refl _))
  generalize (w2.setCell ⟨g, 5, none⟩ (.int .i64 (rc + 1))) = w3 at hX3 hY3 hb3 ⊢
  clear ho3
  obtain ⟨_, _, _, _, _, _⟩ := hX3.frees
  obtain ⟨_, _, _, _, _, _⟩ := hX3.cells
  obtain ⟨_, _, _, _, _, _⟩ := hY3.frees
  obtain ⟨_, _, _, _, _, _⟩ := hY3.cells
  go_wp2_with fail
  have hZ := at6_store hY3 (.int .u16 mx) (.int .i64 cy) (.int .i64 ba) (.int .i64 bd) (.int .i64 pr) (.int .i64 (rc + 1))
  have hbz := hb3.trans ((store6_only w3 g2 (.int .u16 mx) (.int .i64 cy) (.int .i64 ba) (.int .i64 bd) (.int .i64 pr) (.int .i64 (rc + 1))).below (by omega))
  obtain ⟨d0, d1, d2, d3, d4, d5⟩ := hZ.cells
  refine bodyPost_ret (v := .tuple #[.agg #[.int .u16 mx, .int .i64 cy, .int .i64 ba, .int .i64 bd, .int .i64 pr, .int .i64 (rc + 1)], .bool true]) (by simp [results, Try.results12, go_sem, d0, d1, d2, d3, d4, d5]) rfl ⟨rfl, by rw [HG.out]; exact hbz⟩
set_option maxHeartbeats 800000 in
theorem soUpd7_any (mx cy ba bd pr rc n : Int) (a : Int) (ha : IntKind.u16.wrap (n - mx) = a) (a0 : 0 ≤ a) (a1 : a < 65536) (hp : pr ≤ 0) (r0 : 0 ≤ rc) (r1 : rc ≤ 1000000000000000000) (hf : 3000 ≤ a) (hl : a ≤ 65436) (hb : n = bd) (h0 : 0 ≤ n) (h1 : n < 65536) (w : World) :
    Calls Try.prog 12 #[.agg #[.int .u16 mx, .int .i64 cy, .int .i64 ba, .int .i64 bd, .int .i64 pr, .int .i64 rc], .int .u16 n] w fun e w' => e = .returned (.tuple #[.agg #[.int .u16 n, .int .i64 0, .int .i64 n, .int .i64 65537, .int .i64 pr, .int .i64 1], .bool true]) ∧ Below w.heap.size w w' := by
  subst hb
  have hni := i64_16 n h0 h1
  have hai := i64_16 a a0 a1
  have hr1 : IntKind.i64.wrap (rc + 1) = rc + 1 := IntWalk.i64_in _ ⟨by omega, by omega⟩
  have hX : At6 26 ((w.alloc (.cells #[.int .u16 mx, .int .i64 cy, .int .i64 ba, .int .i64 n, .int .i64 pr, .int .i64 rc] 26)).alloc (.cells #[.int .u16 0, .int .i64 0, .int .i64 0, .int .i64 0, .int .i64 0, .int .i64 0] 26)) w.heap.size (.int .u16 mx) (.int .i64 cy) (.int .i64 ba) (.int .i64 n) (.int .i64 pr) (.int .i64 rc) := (at6_new 26 w _ (.int .u16 mx) (.int .i64 cy) (.int .i64 ba) (.int .i64 n) (.int .i64 pr) (.int .i64 rc) rfl).alloc _
  have hY : At6 26 ((w.alloc (.cells #[.int .u16 mx, .int .i64 cy, .int .i64 ba, .int .i64 n, .int .i64 pr, .int .i64 rc] 26)).alloc (.cells #[.int .u16 0, .int .i64 0, .int .i64 0, .int .i64 0, .int .i64 0, .int .i64 0] 26)) (w.heap.size + 1) (.int .u16 0) (.int .i64 0) (.int .i64 0) (.int .i64 0) (.int .i64 0) (.int .i64 0) := at6_new 26 _ _ (.int .u16 0) (.int .i64 0) (.int .i64 0) (.int .i64 0) (.int .i64 0) (.int .i64 0) (by simp)
  have hb : Below w.heap.size w ((w.alloc (.cells #[.int .u16 mx, .int .i64 cy, .int .i64 ba, .int .i64 n, .int .i64 pr, .int .i64 rc] 26)).alloc (.cells #[.int .u16 0, .int .i64 0, .int .i64 0, .int .i64 0, .int .i64 0, .int .i64 0] 26)) := ((Below.refl _ _).alloc (Nat.le_refl _) _).alloc (by simp) _
  go_enter Try.func12, Try.ntmps12
  go_upto_region 1 with fail
  generalize ((w.alloc (.cells #[.int .u16 mx, .int .i64 cy, .int .i64 ba, .int .i64 n, .int .i64 pr, .int .i64 rc] 26)).alloc (.cells #[.int .u16 0, .int .i64 0, .int .i64 0, .int .i64 0, .int .i64 0, .int .i64 0] 26)) = w2 at hX hY hb ⊢
  generalize hg2 : w.heap.size + 1 = g2 at hY ⊢
  generalize hg : w.heap.size = g at hX hb hg2 ⊢
  have hne : g ≠ g2 := by omega
  have hgle : g ≤ g2 := by omega
  have HG := Lib.hid hg
  clear hg hg2
  obtain ⟨_, _, _, _, _, _⟩ := hX.frees
  obtain ⟨_, _, _, _, _, _⟩ := hX.cells
  obtain ⟨_, _, _, _, _, _⟩ := hY.frees
  obtain ⟨_, _, _, _, _, _⟩ := hY.cells
  go_wp2_with fail
  refine (soAnew_any mx cy ba n pr rc n h0 h1 _).mono ?_
  rintro e w3 ⟨rfl, hk3⟩
  have hX3 := hX.later hk3
  have hY3 := hY.later hk3
  have hb3 := hb.trans (hk3.mono (by have := hX.lt; omega))
  obtain ⟨_, _, _, _, _, _⟩ := hX3.frees
  obtain ⟨_, _, _, _, _, _⟩ := hX3.cells
  obtain ⟨_, _, _, _, _, _⟩ := hY3.frees
  obtain ⟨_, _, _, _, _, _⟩ := hY3.cells
  go_upto_region 11 with fail
  have hX4 := at6_store hX3 (.int .u16 n) (.int .i64 0) (.int .i64 n) (.int .i64 65537) (.int .i64 pr) (.int .i64 0)
  have ho4 := store6_only w3 g (.int .u16 n) (.int .i64 0) (.int .i64 n) (.int .i64 65537) (.int .i64 pr) (.int .i64 0)
  have hY4 := hY3.only (fun e => hne e.symm) ho4
  have hb4 := hb3.trans (ho4.below (Nat.le_refl _))
  generalize ((((((w3.setCell ⟨g, 0, none⟩ (.int .u16 n)).setCell ⟨g, 1, none⟩ (.int .i64 0)).setCell ⟨g, 2, none⟩ (.int .i64 n)).setCell ⟨g, 3, none⟩ (.int .i64 65537)).setCell ⟨g, 4, none⟩ (.int .i64 pr)).setCell ⟨g, 5, none⟩ (.int .i64 0)) = w4 at hX4 hY4 hb4 ⊢
  clear ho4
  obtain ⟨_, _, _, _, _, _⟩ := hX4.frees
  obtain ⟨_, _, _, _, _, _⟩ := hX4.cells
  obtain ⟨_, _, _, _, _, _⟩ := hY4.frees
  obtain ⟨_, _, _, _, _, _⟩ := hY4.cells
  go_upto_region 12 with fail
  have hX5 := (at6_set5 hX4 (.int .i64 1))
  have ho5 := ((Only.refl g w4).setCell 5 (.int .i64 1))
  have hY5 := hY4.only (fun e => hne e.symm) ho5
  have hb5 := hb4.trans (ho5.below (Nat.le_refl _))
  generalize (w4.setCell ⟨g, 5, none⟩ (.int .i64 1)) = w5 at hX5 hY5 hb5 ⊢
  clear ho5
  obtain ⟨_, _, _, _, _, _⟩ := hX5.frees
  obtain ⟨_, _, _, _, _, _⟩ := hX5.cells
  obtain ⟨_, _, _, _, _, _⟩ := hY5.frees
  obtain ⟨_, _, _, _, _, _⟩ := hY5.cells
  go_wp2_with fail
  have hZ := at6_store hY5 (.int .u16 n) (.int .i64 0) (.int .i64 n) (.int .i64 65537) (.int .i64 pr) (.int .i64 1)
  have hbz := hb5.trans ((store6_only w5 g2 (.int .u16 n) (.int .i64 0) (.int .i64 n) (.int .i64 65537) (.int .i64 pr) (.int .i64 1)).below (by omega))
  obtain ⟨d0, d1, d2, d3, d4, d5⟩ := hZ.cells
  refine bodyPost_ret (v := .tuple #[.agg #[.int .u16 n, .int .i64 0, .int .i64 n, .int .i64 65537, .int .i64 pr, .int .i64 1], .bool true]) (by simp [results, Try.results12, go_sem, d0, d1, d2, d3, d4, d5]) rfl ⟨rfl, by rw [HG.out]; exact hbz⟩
set_option maxHeartbeats 800000 in
theorem soUpd8_any (mx cy ba bd pr rc n : Int) (a : Int) (ha : IntKind.u16.wrap (n - mx) = a) (a0 : 0 ≤ a) (a1 : a < 65536) (hp : pr ≤ 0) (r0 : 0 ≤ rc) (r1 : rc ≤ 1000000000000000000) (hf : 3000 ≤ a) (hl : a ≤ 65436) (q : Int) (hq : IntKind.u16.wrap (n + 1) = q) (q0 : 0 ≤ q) (q1 : q < 65536) (hb : (n == bd) = false) (h0 : 0 ≤ n) (h1 : n < 65536) (w : World) :
    Calls Try.prog 12 #[.agg #[.int .u16 mx, .int .i64 cy, .int .i64 ba, .int .i64 bd, .int .i64 pr, .int .i64 rc], .int .u16 n] w fun e w' => e = .returned (.tuple #[.agg #[.int .u16 mx, .int .i64 cy, .int .i64 ba, .int .i64 q, .int .i64 pr, .int .i64 rc], .bool false]) ∧ Below w.heap.size w w' := by
  have hni := i64_16 n h0 h1
  have hqi := i64_16 q q0 q1
  have hai := i64_16 a a0 a1
  have hr1 : IntKind.i64.wrap (rc + 1) = rc + 1 := IntWalk.i64_in _ ⟨by omega, by omega⟩
  have hX : At6 26 ((w.alloc (.cells #[.int .u16 mx, .int .i64 cy, .int .i64 ba, .int .i64 bd, .int .i64 pr, .int .i64 rc] 26)).alloc (.cells #[.int .u16 0, .int .i64 0, .int .i64 0, .int .i64 0, .int .i64 0, .int .i64 0] 26)) w.heap.size (.int .u16 mx) (.int .i64 cy) (.int .i64 ba) (.int .i64 bd) (.int .i64 pr) (.int .i64 rc) := (at6_new 26 w _ (.int .u16 mx) (.int .i64 cy) (.int .i64 ba) (.int .i64 bd) (.int .i64 pr) (.int .i64 rc) rfl).alloc _
  have hY : At6 26 ((w.alloc (.cells #[.int .u16 mx, .int .i64 cy, .int .i64 ba, .int .i64 bd, .int .i64 pr, .int .i64 rc] 26)).alloc (.cells #[.int .u16 0, .int .i64 0, .int .i64 0, .int .i64 0, .int .i64 0, .int .i64 0] 26)) (w.heap.size + 1) (.int .u16 0) (.int .i64 0) (.int .i64 0) (.int .i64 0) (.int .i64 0) (.int .i64 0) := at6_new 26 _ _ (.int .u16 0) (.int .i64 0) (.int .i64 0) (.int .i64 0) (.int .i64 0) (.int .i64 0) (by simp)
  have hb : Below w.heap.size w ((w.alloc (.cells #[.int .u16 mx, .int .i64 cy, .int .i64 ba, .int .i64 bd, .int .i64 pr, .int .i64 rc] 26)).alloc (.cells #[.int .u16 0, .int .i64 0, .int .i64 0, .int .i64 0, .int .i64 0, .int .i64 0] 26)) := ((Below.refl _ _).alloc (Nat.le_refl _) _).alloc (by simp) _
  go_enter Try.func12, Try.ntmps12
  go_upto_region 1 with fail
  generalize ((w.alloc (.cells #[.int .u16 mx, .int .i64 cy, .int .i64 ba, .int .i64 bd, .int .i64 pr, .int .i64 rc] 26)).alloc (.cells #[.int .u16 0, .int .i64 0, .int .i64 0, .int .i64 0, .int .i64 0, .int .i64 0] 26)) = w2 at hX hY hb ⊢
  generalize hg2 : w.heap.size + 1 = g2 at hY ⊢
  generalize hg : w.heap.size = g at hX hb hg2 ⊢
  have hne : g ≠ g2 := by omega
  have hgle : g ≤ g2 := by omega
  have HG := Lib.hid hg
  clear hg hg2
  obtain ⟨_, _, _, _, _, _⟩ := hX.frees
  obtain ⟨_, _, _, _, _, _⟩ := hX.cells
  obtain ⟨_, _, _, _, _, _⟩ := hY.frees
  obtain ⟨_, _, _, _, _, _⟩ := hY.cells
  go_upto_region 5 with fail
  have hX3 := (at6_set3 hX (.int .i64 q))
  have ho3 := ((Only.refl g w2).setCell 3 (.int .i64 q))
  have hY3 := hY.only (fun e => hne e.symm) ho3
  have hb3 := hb.trans (ho3.below (Nat.le_refl _))
  generalize (w2.setCell ⟨g, 3, none⟩ (.int .i64 q)) = w3 at hX3 hY3 hb3 ⊢
  clear ho3
  obtain ⟨_, _, _, _, _, _⟩ := hX3.frees
  obtain ⟨_, _, _, _, _, _⟩ := hX3.cells
  obtain ⟨_, _, _, _, _, _⟩ := hY3.frees
  obtain ⟨_, _, _, _, _, _⟩ := hY3.cells
  go_wp2_with fail
  have hZ := at6_store hY3 (.int .u16 mx) (.int .i64 cy) (.int .i64 ba) (.int .i64 q) (.int .i64 pr) (.int .i64 rc)
  have hbz := hb3.trans ((store6_only w3 g2 (.int .u16 mx) (.int .i64 cy) (.int .i64 ba) (.int .i64 q) (.int .i64 pr) (.int .i64 rc)).below (by omega))
  obtain ⟨d0, d1, d2, d3, d4, d5⟩ := hZ.cells
  refine bodyPost_ret (v := .tuple #[.agg #[.int .u16 mx, .int .i64 cy, .int .i64 ba, .int .i64 q, .int .i64 pr, .int .i64 rc], .bool false]) (by simp [results, Try.results12, go_sem, d0, d1, d2, d3, d4, d5]) rfl ⟨rfl, by rw [HG.out]; exact hbz⟩
end Go.Proofs.Ytncpepbpphpkoaa
