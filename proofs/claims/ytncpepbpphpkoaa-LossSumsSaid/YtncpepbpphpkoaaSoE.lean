/- The document's Update of a source. -/
import Derived.Test.YtncpepbpphpkoaaSoC
namespace Go.Proofs.Ytncpepbpphpkoaa
open Go.RowKit
set_option linter.unusedVariables false

set_option maxHeartbeats 800000 in
theorem refUpd1_any (mx cy ba bd pr rc n : Int) (q : Int) (hq : (mx + 1) % 65536 = q) (hn : (n == q) = false) (hp : 0 < pr) (m0 : 0 ≤ mx) (m1 : mx < 65536) (h0 : 0 ≤ n) (h1 : n < 65536) (w : World) :
    Calls Try.prog 13 #[.agg #[.int .i64 mx, .int .i64 cy, .int .i64 ba, .int .i64 bd, .int .i64 pr, .int .i64 rc], .int .i64 n] w fun e w' => e = .returned (.tuple #[.agg #[.int .i64 n, .int .i64 cy, .int .i64 ba, .int .i64 bd, .int .i64 1, .int .i64 rc], .bool false]) ∧ Below w.heap.size w w' := by
  have hX : At6 29 ((w.alloc (.cells #[.int .i64 mx, .int .i64 cy, .int .i64 ba, .int .i64 bd, .int .i64 pr, .int .i64 rc] 29)).alloc (.cells #[.int .i64 0, .int .i64 0, .int .i64 0, .int .i64 0, .int .i64 0, .int .i64 0] 29)) w.heap.size (.int .i64 mx) (.int .i64 cy) (.int .i64 ba) (.int .i64 bd) (.int .i64 pr) (.int .i64 rc) := (at6_new 29 w _ (.int .i64 mx) (.int .i64 cy) (.int .i64 ba) (.int .i64 bd) (.int .i64 pr) (.int .i64 rc) rfl).alloc _
  have hY : At6 29 ((w.alloc (.cells #[.int .i64 mx, .int .i64 cy, .int .i64 ba, .int .i64 bd, .int .i64 pr, .int .i64 rc] 29)).alloc (.cells #[.int .i64 0, .int .i64 0, .int .i64 0, .int .i64 0, .int .i64 0, .int .i64 0] 29)) (w.heap.size + 1) (.int .i64 0) (.int .i64 0) (.int .i64 0) (.int .i64 0) (.int .i64 0) (.int .i64 0) := at6_new 29 _ _ (.int .i64 0) (.int .i64 0) (.int .i64 0) (.int .i64 0) (.int .i64 0) (.int .i64 0) (by simp)
  have hb : Below w.heap.size w ((w.alloc (.cells #[.int .i64 mx, .int .i64 cy, .int .i64 ba, .int .i64 bd, .int .i64 pr, .int .i64 rc] 29)).alloc (.cells #[.int .i64 0, .int .i64 0, .int .i64 0, .int .i64 0, .int .i64 0, .int .i64 0] 29)) := ((Below.refl _ _).alloc (Nat.le_refl _) _).alloc (by simp) _
  go_enter Try.func13, Try.ntmps13
  go_upto_region 1 with fail
  generalize ((w.alloc (.cells #[.int .i64 mx, .int .i64 cy, .int .i64 ba, .int .i64 bd, .int .i64 pr, .int .i64 rc] 29)).alloc (.cells #[.int .i64 0, .int .i64 0, .int .i64 0, .int .i64 0, .int .i64 0, .int .i64 0] 29)) = w2 at hX hY hb ⊢
  generalize hg2 : w.heap.size + 1 = g2 at hY ⊢
  generalize hg : w.heap.size = g at hX hb hg2 ⊢
  have hne : g ≠ g2 := by omega
  have hgle : g ≤ g2 := by omega
  have HG := Lib.hid hg
  clear hg hg2
  obtain ⟨_, _, _, _, _, _⟩ := hX.frees
  obtain ⟨_, _, _, _, _, _⟩ := hX.cells
  obtain ⟨_, _, _, _, _, _⟩ := hY.frees
  obtain ⟨_, _, _, _, _, _⟩ := hY.cells
  go_upto_region 10 with fail
  have hX3 := (at6_set0 (at6_set4 hX (.int .i64 1)) (.int .i64 n))
  have ho3 := (((Only.refl g w2).setCell 4 (.int .i64 1)).setCell 0 (.int .i64 n))
  have hY3 := hY.only (fun e => hne e.symm) ho3
  have hb3 := hb.trans (ho3.below (Nat.le_refl _))
  generalize ((w2.setCell ⟨g, 4, none⟩ (.int .i64 1)).setCell ⟨g, 0, none⟩ (.int .i64 n)) = w3 at hX3 hY3 hb3 ⊢
  clear ho3
  obtain ⟨_, _, _, _, _, _⟩ := hX3.frees
  obtain ⟨_, _, _, _, _, _⟩ := hX3.cells
  obtain ⟨_, _, _, _, _, _⟩ := hY3.frees
  obtain ⟨_, _, _, _, _, _⟩ := hY3.cells
  go_wp2_with fail
  have hZ := at6_store hY3 (.int .i64 n) (.int .i64 cy) (.int .i64 ba) (.int .i64 bd) (.int .i64 1) (.int .i64 rc)
  have hbz := hb3.trans ((store6_only w3 g2 (.int .i64 n) (.int .i64 cy) (.int .i64 ba) (.int .i64 bd) (.int .i64 1) (.int .i64 rc)).below (by omega))
  obtain ⟨d0, d1, d2, d3, d4, d5⟩ := hZ.cells
  refine bodyPost_ret (v := .tuple #[.agg #[.int .i64 n, .int .i64 cy, .int .i64 ba, .int .i64 bd, .int .i64 1, .int .i64 rc], .bool false]) (by simp [results, Try.results13, go_sem, d0, d1, d2, d3, d4, d5]) rfl ⟨rfl, by rw [HG.out]; exact hbz⟩
set_option maxHeartbeats 800000 in
theorem refUpd2_any (mx cy ba bd pr rc n : Int) (hq : (mx + 1) % 65536 = n) (hp : pr = 1) (m0 : 0 ≤ mx) (m1 : mx < 65536) (h0 : 0 ≤ n) (h1 : n < 65536) (w : World) :
    Calls Try.prog 13 #[.agg #[.int .i64 mx, .int .i64 cy, .int .i64 ba, .int .i64 bd, .int .i64 pr, .int .i64 rc], .int .i64 n] w fun e w' => e = .returned (.tuple #[.agg #[.int .i64 n, .int .i64 0, .int .i64 n, .int .i64 65537, .int .i64 0, .int .i64 1], .bool true]) ∧ Below w.heap.size w w' := by
  subst hp
  have hX : At6 29 ((w.alloc (.cells #[.int .i64 mx, .int .i64 cy, .int .i64 ba, .int .i64 bd, .int .i64 1, .int .i64 rc] 29)).alloc (.cells #[.int .i64 0, .int .i64 0, .int .i64 0, .int .i64 0, .int .i64 0, .int .i64 0] 29)) w.heap.size (.int .i64 mx) (.int .i64 cy) (.int .i64 ba) (.int .i64 bd) (.int .i64 1) (.int .i64 rc) := (at6_new 29 w _ (.int .i64 mx) (.int .i64 cy) (.int .i64 ba) (.int .i64 bd) (.int .i64 1) (.int .i64 rc) rfl).alloc _
  have hY : At6 29 ((w.alloc (.cells #[.int .i64 mx, .int .i64 cy, .int .i64 ba, .int .i64 bd, .int .i64 1, .int .i64 rc] 29)).alloc (.cells #[.int .i64 0, .int .i64 0, .int .i64 0, .int .i64 0, .int .i64 0, .int .i64 0] 29)) (w.heap.size + 1) (.int .i64 0) (.int .i64 0) (.int .i64 0) (.int .i64 0) (.int .i64 0) (.int .i64 0) := at6_new 29 _ _ (.int .i64 0) (.int .i64 0) (.int .i64 0) (.int .i64 0) (.int .i64 0) (.int .i64 0) (by simp)
  have hb : Below w.heap.size w ((w.alloc (.cells #[.int .i64 mx, .int .i64 cy, .int .i64 ba, .int .i64 bd, .int .i64 1, .int .i64 rc] 29)).alloc (.cells #[.int .i64 0, .int .i64 0, .int .i64 0, .int .i64 0, .int .i64 0, .int .i64 0] 29)) := ((Below.refl _ _).alloc (Nat.le_refl _) _).alloc (by simp) _
  go_enter Try.func13, Try.ntmps13
  go_upto_region 1 with fail
  generalize ((w.alloc (.cells #[.int .i64 mx, .int .i64 cy, .int .i64 ba, .int .i64 bd, .int .i64 1, .int .i64 rc] 29)).alloc (.cells #[.int .i64 0, .int .i64 0, .int .i64 0, .int .i64 0, .int .i64 0, .int .i64 0] 29)) = w2 at hX hY hb ⊢
  generalize hg2 : w.heap.size + 1 = g2 at hY ⊢
  generalize hg : w.heap.size = g at hX hb hg2 ⊢
  have hne : g ≠ g2 := by omega
  have hgle : g ≤ g2 := by omega
  have HG := Lib.hid hg
  clear hg hg2
  obtain ⟨_, _, _, _, _, _⟩ := hX.frees
  obtain ⟨_, _, _, _, _, _⟩ := hX.cells
  obtain ⟨_, _, _, _, _, _⟩ := hY.frees
  obtain ⟨_, _, _, _, _, _⟩ := hY.cells
  go_wp2_with fail
  have hZ := at6_store hY (.int .i64 n) (.int .i64 0) (.int .i64 n) (.int .i64 65537) (.int .i64 0) (.int .i64 1)
  have hbz := hb.trans ((store6_only w2 g2 (.int .i64 n) (.int .i64 0) (.int .i64 n) (.int .i64 65537) (.int .i64 0) (.int .i64 1)).below (by omega))
  obtain ⟨d0, d1, d2, d3, d4, d5⟩ := hZ.cells
  refine bodyPost_ret (v := .tuple #[.agg #[.int .i64 n, .int .i64 0, .int .i64 n, .int .i64 65537, .int .i64 0, .int .i64 1], .bool true]) (by simp [results, Try.results13, go_sem, d0, d1, d2, d3, d4, d5]) rfl ⟨rfl, by rw [HG.out]; exact hbz⟩
set_option maxHeartbeats 800000 in
theorem refUpd3_any (mx cy ba bd pr rc n : Int) (hq : (mx + 1) % 65536 = n) (hp : 2 ≤ pr) (hp2 : pr ≤ 1000000) (m0 : 0 ≤ mx) (m1 : mx < 65536) (h0 : 0 ≤ n) (h1 : n < 65536) (w : World) :
    Calls Try.prog 13 #[.agg #[.int .i64 mx, .int .i64 cy, .int .i64 ba, .int .i64 bd, .int .i64 pr, .int .i64 rc], .int .i64 n] w fun e w' => e = .returned (.tuple #[.agg #[.int .i64 n, .int .i64 cy, .int .i64 ba, .int .i64 bd, .int .i64 (pr - 1), .int .i64 rc], .bool false]) ∧ Below w.heap.size w w' := by
  have hpn : decide (pr = 1) = false := by simp; omega
  have hX : At6 29 ((w.alloc (.cells #[.int .i64 mx, .int .i64 cy, .int .i64 ba, .int .i64 bd, .int .i64 pr, .int .i64 rc] 29)).alloc (.cells #[.int .i64 0, .int .i64 0, .int .i64 0, .int .i64 0, .int .i64 0, .int .i64 0] 29)) w.heap.size (.int .i64 mx) (.int .i64 cy) (.int .i64 ba) (.int .i64 bd) (.int .i64 pr) (.int .i64 rc) := (at6_new 29 w _ (.int .i64 mx) (.int .i64 cy) (.int .i64 ba) (.int .i64 bd) (.int .i64 pr) (.int .i64 rc) rfl).alloc _
  have hY : At6 29 ((w.alloc (.cells #[.int .i64 mx, .int .i64 cy, .int .i64 ba, .int .i64 bd, .int .i64 pr, .int .i64 rc] 29)).alloc (.cells #[.int .i64 0, .int .i64 0, .int .i64 0, .int .i64 0, .int .i64 0, .int .i64 0] 29)) (w.heap.size + 1) (.int .i64 0) (.int .i64 0) (.int .i64 0) (.int .i64 0) (.int .i64 0) (.int .i64 0) := at6_new 29 _ _ (.int .i64 0) (.int .i64 0) (.int .i64 0) (.int .i64 0) (.int .i64 0) (.int .i64 0) (by simp)
  have hb : Below w.heap.size w ((w.alloc (.cells #[.int .i64 mx, .int .i64 cy, .int .i64 ba, .int .i64 bd, .int .i64 pr, .int .i64 rc] 29)).alloc (.cells #[.int .i64 0, .int .i64 0, .int .i64 0, .int .i64 0, .int .i64 0, .int .i64 0] 29)) := ((Below.refl _ _).alloc (Nat.le_refl _) _).alloc (by simp) _
  go_enter Try.func13, Try.ntmps13
  go_upto_region 1 with fail
  generalize ((w.alloc (.cells #[.int .i64 mx, .int .i64 cy, .int .i64 ba, .int .i64 bd, .int .i64 pr, .int .i64 rc] 29)).alloc (.cells #[.int .i64 0, .int .i64 0, .int .i64 0, .int .i64 0, .int .i64 0, .int .i64 0] 29)) = w2 at hX hY hb ⊢
  generalize hg2 : w.heap.size + 1 = g2 at hY ⊢
  generalize hg : w.heap.size = g at hX hb hg2 ⊢
  have hne : g ≠ g2 := by omega
  have hgle : g ≤ g2 := by omega
  have HG := Lib.hid hg
  clear hg hg2
  obtain ⟨_, _, _, _, _, _⟩ := hX.frees
  obtain ⟨_, _, _, _, _, _⟩ := hX.cells
  obtain ⟨_, _, _, _, _, _⟩ := hY.frees
  obtain ⟨_, _, _, _, _, _⟩ := hY.cells
  go_upto_region 7 with fail
  have hX3 := (at6_set0 (at6_set4 hX (.int .i64 (pr - 1))) (.int .i64 n))
  have ho3 := (((Only.refl g w2).setCell 4 (.int .i64 (pr - 1))).setCell 0 (.int .i64 n))
  have hY3 := hY.only (fun e => hne e.symm) ho3
  have hb3 := hb.trans (ho3.below (Nat.le_refl _))
  generalize ((w2.setCell ⟨g, 4, none⟩ (.int .i64 (pr - 1))).setCell ⟨g, 0, none⟩ (.int .i64 n)) = w3 at hX3 hY3 hb3 ⊢
  clear ho3
  obtain ⟨_, _, _, _, _, _⟩ := hX3.frees
  obtain ⟨_, _, _, _, _, _⟩ := hX3.cells
  obtain ⟨_, _, _, _, _, _⟩ := hY3.frees
  obtain ⟨_, _, _, _, _, _⟩ := hY3.cells
  go_wp2_with fail
  have hZ := at6_store hY3 (.int .i64 n) (.int .i64 cy) (.int .i64 ba) (.int .i64 bd) (.int .i64 (pr - 1)) (.int .i64 rc)
  have hbz := hb3.trans ((store6_only w3 g2 (.int .i64 n) (.int .i64 cy) (.int .i64 ba) (.int .i64 bd) (.int .i64 (pr - 1)) (.int .i64 rc)).below (by omega))
  obtain ⟨d0, d1, d2, d3, d4, d5⟩ := hZ.cells
  refine bodyPost_ret (v := .tuple #[.agg #[.int .i64 n, .int .i64 cy, .int .i64 ba, .int .i64 bd, .int .i64 (pr - 1), .int .i64 rc], .bool false]) (by simp [results, Try.results13, go_sem, d0, d1, d2, d3, d4, d5]) rfl ⟨rfl, by rw [HG.out]; exact hbz⟩
set_option maxHeartbeats 800000 in
theorem refUpd4_any (mx cy ba bd pr rc n : Int) (m0 : 0 ≤ mx) (m1 : mx < 65536) (h0 : 0 ≤ n) (h1 : n < 65536) (a : Int) (ha : (n - mx + 65536) % 65536 = a) (a0 : 0 ≤ a) (a1 : a < 65536) (hp : pr ≤ 0) (r0 : 0 ≤ rc) (r1 : rc ≤ 1000000000000000000) (hc0 : 0 ≤ cy) (hc1 : cy ≤ 9000000000000000000) (hf : a < 3000) (hl : n < mx) (w : World) :
    Calls Try.prog 13 #[.agg #[.int .i64 mx, .int .i64 cy, .int .i64 ba, .int .i64 bd, .int .i64 pr, .int .i64 rc], .int .i64 n] w fun e w' => e = .returned (.tuple #[.agg #[.int .i64 n, .int .i64 (cy + 65536), .int .i64 ba, .int .i64 bd, .int .i64 pr, .int .i64 (rc + 1)], .bool true]) ∧ Below w.heap.size w w' := by
  have hr1 : IntKind.i64.wrap (rc + 1) = rc + 1 := IntWalk.i64_in _ ⟨by omega, by omega⟩
  have hX : At6 29 ((w.alloc (.cells #[.int .i64 mx, .int .i64 cy, .int .i64 ba, .int .i64 bd, .int .i64 pr, .int .i64 rc] 29)).alloc (.cells #[.int .i64 0, .int .i64 0, .int .i64 0, .int .i64 0, .int .i64 0, .int .i64 0] 29)) w.heap.size (.int .i64 mx) (.int .i64 cy) (.int .i64 ba) (.int .i64 bd) (.int .i64 pr) (.int .i64 rc) := (at6_new 29 w _ (.int .i64 mx) (.int .i64 cy) (.int .i64 ba) (.int .i64 bd) (.int .i64 pr) (.int .i64 rc) rfl).alloc _
  have hY : At6 29 ((w.alloc (.cells #[.int .i64 mx, .int .i64 cy, .int .i64 ba, .int .i64 bd, .int .i64 pr, .int .i64 rc] 29)).alloc (.cells #[.int .i64 0, .int .i64 0, .int .i64 0, .int .i64 0, .int .i64 0, .int .i64 0] 29)) (w.heap.size + 1) (.int .i64 0) (.int .i64 0) (.int .i64 0) (.int .i64 0) (.int .i64 0) (.int .i64 0) := at6_new 29 _ _ (.int .i64 0) (.int .i64 0) (.int .i64 0) (.int .i64 0) (.int .i64 0) (.int .i64 0) (by simp)
  have hb : Below w.heap.size w ((w.alloc (.cells #[.int .i64 mx, .int .i64 cy, .int .i64 ba, .int .i64 bd, .int .i64 pr, .int .i64 rc] 29)).alloc (.cells #[.int .i64 0, .int .i64 0, .int .i64 0, .int .i64 0, .int .i64 0, .int .i64 0] 29)) := ((Below.refl _ _).alloc (Nat.le_refl _) _).alloc (by simp) _
  go_enter Try.func13, Try.ntmps13
  go_upto_region 1 with fail
  generalize ((w.alloc (.cells #[.int .i64 mx, .int .i64 cy, .int .i64 ba, .int .i64 bd, .int .i64 pr, .int .i64 rc] 29)).alloc (.cells #[.int .i64 0, .int .i64 0, .int .i64 0, .int .i64 0, .int .i64 0, .int .i64 0] 29)) = w2 at hX hY hb ⊢
  generalize hg2 : w.heap.size + 1 = g2 at hY ⊢
  generalize hg : w.heap.size = g at hX hb hg2 ⊢
  have hne : g ≠ g2 := by omega
  have hgle : g ≤ g2 := by omega
  have HG := Lib.hid hg
  clear hg hg2
  obtain ⟨_, _, _, _, _, _⟩ := hX.frees
  obtain ⟨_, _, _, _, _, _⟩ := hX.cells
  obtain ⟨_, _, _, _, _, _⟩ := hY.frees
  obtain ⟨_, _, _, _, _, _⟩ := hY.cells
  go_upto_region 17 with fail
  have hX3 := (at6_set5 (at6_set0 (at6_set1 hX (.int .i64 (cy + 65536))) (.int .i64 n)) (.int .i64 (rc + 1)))
  have ho3 := ((((Only.refl g w2).setCell 1 (.int .i64 (cy + 65536))).setCell 0 (.int .i64 n)).setCell 5 (.int .i64 (rc + 1)))
  have hY3 := hY.only (fun e => hne e.symm) ho3
  have hb3 := hb.trans (ho3.below (Nat.le_refl _))
  generalize (((w2.setCell ⟨g, 1, none⟩ (.int .i64 (cy + 65536))).setCell ⟨g, 0, none⟩ (.int .i64 n)).setCell ⟨g, 5, none⟩ (.int .i64 (rc + 1))) = w3 at hX3 hY3 hb3 ⊢
  clear ho3
  obtain ⟨_, _, _, _, _, _⟩ := hX3.frees
  obtain ⟨_, _, _, _, _, _⟩ := hX3.cells
  obtain ⟨_, _, _, _, _, _⟩ := hY3.frees
  obtain ⟨_, _, _, _, _, _⟩ := hY3.cells
  go_wp2_with fail
  have hZ := at6_store hY3 (.int .i64 n) (.int .i64 (cy + 65536)) (.int .i64 ba) (.int .i64 bd) (.int .i64 pr) (.int .i64 (rc + 1))
  have hbz := hb3.trans ((store6_only w3 g2 (.int .i64 n) (.int .i64 (cy + 65536)) (.int .i64 ba) (.int .i64 bd) (.int .i64 pr) (.int .i64 (rc + 1))).below (by omega))
  obtain ⟨d0, d1, d2, d3, d4, d5⟩ := hZ.cells
  refine bodyPost_ret (v := .tuple #[.agg #[.int .i64 n, .int .i64 (cy + 65536), .int .i64 ba, .int .i64 bd, .int .i64 pr, .int .i64 (rc + 1)], .bool true]) (by simp [results, Try.results13, go_sem, d0, d1, d2, d3, d4, d5]) rfl ⟨rfl, by rw [HG.out]; exact hbz⟩
set_option maxHeartbeats 800000 in
theorem refUpd5_any (mx cy ba bd pr rc n : Int) (m0 : 0 ≤ mx) (m1 : mx < 65536) (h0 : 0 ≤ n) (h1 : n < 65536) (a : Int) (ha : (n - mx + 65536) % 65536 = a) (a0 : 0 ≤ a) (a1 : a < 65536) (hp : pr ≤ 0) (r0 : 0 ≤ rc) (r1 : rc ≤ 1000000000000000000) (hc0 : 0 ≤ cy) (hc1 : cy ≤ 9000000000000000000) (hf : a < 3000) (hl : mx ≤ n) (w : World) :
    Calls Try.prog 13 #[.agg #[.int .i64 mx, .int .i64 cy, .int .i64 ba, .int .i64 bd, .int .i64 pr, .int .i64 rc], .int .i64 n] w fun e w' => e = .returned (.tuple #[.agg #[.int .i64 n, .int .i64 cy, .int .i64 ba, .int .i64 bd, .int .i64 pr, .int .i64 (rc + 1)], .bool true]) ∧ Below w.heap.size w w' := by
  have hr1 : IntKind.i64.wrap (rc + 1) = rc + 1 := IntWalk.i64_in _ ⟨by omega, by omega⟩
  have hX : At6 29 ((w.alloc (.cells #[.int .i64 mx, .int .i64 cy, .int .i64 ba, .int .i64 bd, .int .i64 pr, .int .i64 rc] 29)).alloc (.cells #[.int .i64 0, .int .i64 0, .int .i64 0, .int .i64 0, .int .i64 0, .int .i64 0] 29)) w.heap.size (.int .i64 mx) (.int .i64 cy) (.int .i64 ba) (.int .i64 bd) (.int .i64 pr) (.int .i64 rc) := (at6_new 29 w _ (.int .i64 mx) (.int .i64 cy) (.int .i64 ba) (.int .i64 bd) (.int .i64 pr) (.int .i64 rc) rfl).alloc _
  have hY : At6 29 ((w.alloc (.cells #[.int .i64 mx, .int .i64 cy, .int .i64 ba, .int .i64 bd, .int .i64 pr, .int .i64 rc] 29)).alloc (.cells #[.int .i64 0, .int .i64 0, .int .i64 0, .int .i64 0, .int .i64 0, .int .i64 0] 29)) (w.heap.size + 1) (.int .i64 0) (.int .i64 0) (.int .i64 0) (.int .i64 0) (.int .i64 0) (.int .i64 0) := at6_new 29 _ _ (.int .i64 0) (.int .i64 0) (.int .i64 0) (.int .i64 0) (.int .i64 0) (.int .i64 0) (by simp)
  have hb : Below w.heap.size w ((w.alloc (.cells #[.int .i64 mx, .int .i64 cy, .int .i64 ba, .int .i64 bd, .int .i64 pr, .int .i64 rc] 29)).alloc (.cells #[.int .i64 0, .int .i64 0, .int .i64 0, .int .i64 0, .int .i64 0, .int .i64 0] 29)) := ((Below.refl _ _).alloc (Nat.le_refl _) _).alloc (by simp) _
  go_enter Try.func13, Try.ntmps13
  go_upto_region 1 with fail
  generalize ((w.alloc (.cells #[.int .i64 mx, .int .i64 cy, .int .i64 ba, .int .i64 bd, .int .i64 pr, .int .i64 rc] 29)).alloc (.cells #[.int .i64 0, .int .i64 0, .int .i64 0, .int .i64 0, .int .i64 0, .int .i64 0] 29)) = w2 at hX hY hb ⊢
  generalize hg2 : w.heap.size + 1 = g2 at hY ⊢
  generalize hg : w.heap.size = g at hX hb hg2 ⊢
  have hne : g ≠ g2 := by omega
  have hgle : g ≤ g2 := by omega
  have HG := Lib.hid hg
  clear hg hg2
  obtain ⟨_, _, _, _, _, _⟩ := hX.frees
  obtain ⟨_, _, _, _, _, _⟩ := hX.cells
  obtain ⟨_, _, _, _, _, _⟩ := hY.frees
  obtain ⟨_, _, _, _, _, _⟩ := hY.cells
  go_upto_region 17 with fail
  have hX3 := (at6_set5 (at6_set0 hX (.int .i64 n)) (.int .i64 (rc + 1)))
  have ho3 := (((Only.refl g w2).setCell 0 (.int .i64 n)).setCell 5 (.int .i64 (rc + 1)))
  have hY3 := hY.only (fun e => hne e.symm) ho3
  have hb3 := hb.trans (ho3.below (Nat.le_refl _))
  generalize ((w2.setCell ⟨g, 0, none⟩ (.int .i64 n)).setCell ⟨g, 5, none⟩ (.int .i64 (rc + 1))) = w3 at hX3 hY3 hb3 ⊢
  clear ho3
  obtain ⟨_, _, _, _, _, _⟩ := hX3.frees
  obtain ⟨_, _, _, _, _, _⟩ := hX3.cells
  obtain ⟨_, _, _, _, _, _⟩ := hY3.frees
  obtain ⟨_, _, _, _, _, _⟩ := hY3.cells
  go_wp2_with fail
  have hZ := at6_store hY3 (.int .i64 n) (.int .i64 cy) (.int .i64 ba) (.int .i64 bd) (.int .i64 pr) (.int .i64 (rc + 1))
  have hbz := hb3.trans ((store6_only w3 g2 (.int .i64 n) (.int .i64 cy) (.int .i64 ba) (.int .i64 bd) (.int .i64 pr) (.int .i64 (rc + 1))).below (by omega))
  obtain ⟨d0, d1, d2, d3, d4, d5⟩ := hZ.cells
  refine bodyPost_ret (v := .tuple #[.agg #[.int .i64 n, .int .i64 cy, .int .i64 ba, .int .i64 bd, .int .i64 pr, .int .i64 (rc + 1)], .bool true]) (by simp [results, Try.results13, go_sem, d0, d1, d2, d3, d4, d5]) rfl ⟨rfl, by rw [HG.out]; exact hbz⟩
set_option maxHeartbeats 800000 in
theorem refUpd6_any (mx cy ba bd pr rc n : Int) (m0 : 0 ≤ mx) (m1 : mx < 65536) (h0 : 0 ≤ n) (h1 : n < 65536) (a : Int) (ha : (n - mx + 65536) % 65536 = a) (a0 : 0 ≤ a) (a1 : a < 65536) (hp : pr ≤ 0) (r0 : 0 ≤ rc) (r1 : rc ≤ 1000000000000000000) (hf : 3000 ≤ a) (hl : 65436 < a) (w : World) :
    Calls Try.prog 13 #[.agg #[.int .i64 mx, .int .i64 cy, .int .i64 ba, .int .i64 bd, .int .i64 pr, .int .i64 rc], .int .i64 n] w fun e w' => e = .returned (.tuple #[.agg #[.int .i64 mx, .int .i64 cy, .int .i64 ba, .int .i64 bd, .int .i64 pr, .int .i64 (rc + 1)], .bool true]) ∧ Below w.heap.size w w' := by
  have hr1 : IntKind.i64.wrap (rc + 1) = rc + 1 := IntWalk.i64_in _ ⟨by omega, by omega⟩
  have hX : At6 29 ((w.alloc (.cells #[.int .i64 mx, .int .i64 cy, .int .i64 ba, .int .i64 bd, .int .i64 pr, .int .i64 rc] 29)).alloc (.cells #[.int .i64 0, .int .i64 0, .int .i64 0, .int .i64 0, .int .i64 0, .int .i64 0] 29)) w.heap.size (.int .i64 mx) (.int .i64 cy) (.int .i64 ba) (.int .i64 bd) (.int .i64 pr) (.int .i64 rc) := (at6_new 29 w _ (.int .i64 mx) (.int .i64 cy) (.int .i64 ba) (.int .i64 bd) (.int .i64 pr) (.int .i64 rc) rfl).alloc _
  have hY : At6 29 ((w.alloc (.cells #[.int .i64 mx, .int .i64 cy, .int .i64 ba, .int .i64 bd, .int .i64 pr, .int .i64 rc] 29)).alloc (.cells #[.int .i64 0, .int .i64 0, .int .i64 0, .int .i64 0, .int .i64 0, .int .i64 0] 29)) (w.heap.size + 1) (.int .i64 0) (.int .i64 0) (.int .i64 0) (.int .i64 0) (.int .i64 0) (.int .i64 0) := at6_new 29 _ _ (.int .i64 0) (.int .i64 0) (.int .i64 0) (.int .i64 0) (.int .i64 0) (.int .i64 0) (by simp)
  have hb : Below w.heap.size w ((w.alloc (.cells #[.int .i64 mx, .int .i64 cy, .int .i64 ba, .int .i64 bd, .int .i64 pr, .int .i64 rc] 29)).alloc (.cells #[.int .i64 0, .int .i64 0, .int .i64 0, .int .i64 0, .int .i64 0, .int .i64 0] 29)) := ((Below.refl _ _).alloc (Nat.le_refl _) _).alloc (by simp) _
  go_enter Try.func13, Try.ntmps13
  go_upto_region 1 with fail
  generalize ((w.alloc (.cells #[.int .i64 mx, .int .i64 cy, .int .i64 ba, .int .i64 bd, .int .i64 pr, .int .i64 rc] 29)).alloc (.cells #[.int .i64 0, .int .i64 0, .int .i64 0, .int .i64 0, .int .i64 0, .int .i64 0] 29)) = w2 at hX hY hb ⊢
  generalize hg2 : w.heap.size + 1 = g2 at hY ⊢
  generalize hg : w.heap.size = g at hX hb hg2 ⊢
  have hne : g ≠ g2 := by omega
  have hgle : g ≤ g2 := by omega
  have HG := Lib.hid hg
  clear hg hg2
  obtain ⟨_, _, _, _, _, _⟩ := hX.frees
  obtain ⟨_, _, _, _, _, _⟩ := hX.cells
  obtain ⟨_, _, _, _, _, _⟩ := hY.frees
  obtain ⟨_, _, _, _, _, _⟩ := hY.cells
  go_upto_region 20 with fail
  have hX3 := (at6_set5 hX (.int .i64 (rc + 1)))
  have ho3 := ((Only.refl g w2).setCell 5 (.int .i64 (rc + 1)))
  have hY3 := hY.only (fun e => hne e.symm) ho3
  have hb3 := hb.trans (ho3.below (Nat.le_refl _))
  generalize (w2.setCell ⟨g, 5, none⟩ (.int .i64 (rc + 1))) = w3 at hX3 hY3 hb3 ⊢
  clear ho3
  obtain ⟨_, _, _, _, _, _⟩ := hX3.frees
  obtain ⟨_, _, _, _, _, _⟩ := hX3.cells
  obtain ⟨_, _, _, _, _, _⟩ := hY3.frees
  obtain ⟨_, _, _, _, _, _⟩ := hY3.cells
  go_wp2_with fail
  have hZ := at6_store hY3 (.int .i64 mx) (.int .i64 cy) (.int .i64 ba) (.int .i64 bd) (.int .i64 pr) (.int .i64 (rc + 1))
  have hbz := hb3.trans ((store6_only w3 g2 (.int .i64 mx) (.int .i64 cy) (.int .i64 ba) (.int .i64 bd) (.int .i64 pr) (.int .i64 (rc + 1))).below (by omega))
  obtain ⟨d0, d1, d2, d3, d4, d5⟩ := hZ.cells
  refine bodyPost_ret (v := .tuple #[.agg #[.int .i64 mx, .int .i64 cy, .int .i64 ba, .int .i64 bd, .int .i64 pr, .int .i64 (rc + 1)], .bool true]) (by simp [results, Try.results13, go_sem, d0, d1, d2, d3, d4, d5]) rfl ⟨rfl, by rw [HG.out]; exact hbz⟩
set_option maxHeartbeats 800000 in
theorem refUpd7_any (mx cy ba bd pr rc n : Int) (m0 : 0 ≤ mx) (m1 : mx < 65536) (h0 : 0 ≤ n) (h1 : n < 65536) (a : Int) (ha : (n - mx + 65536) % 65536 = a) (a0 : 0 ≤ a) (a1 : a < 65536) (hp : pr ≤ 0) (r0 : 0 ≤ rc) (r1 : rc ≤ 1000000000000000000) (hf : 3000 ≤ a) (hl : a ≤ 65436) (hb : n = bd) (w : World) :
    Calls Try.prog 13 #[.agg #[.int .i64 mx, .int .i64 cy, .int .i64 ba, .int .i64 bd, .int .i64 pr, .int .i64 rc], .int .i64 n] w fun e w' => e = .returned (.tuple #[.agg #[.int .i64 n, .int .i64 0, .int .i64 n, .int .i64 65537, .int .i64 pr, .int .i64 1], .bool true]) ∧ Below w.heap.size w w' := by
  subst hb
  have hr1 : IntKind.i64.wrap (rc + 1) = rc + 1 := IntWalk.i64_in _ ⟨by omega, by omega⟩
  have hX : At6 29 ((w.alloc (.cells #[.int .i64 mx, .int .i64 cy, .int .i64 ba, .int .i64 n, .int .i64 pr, .int .i64 rc] 29)).alloc (.cells #[.int .i64 0, .int .i64 0, .int .i64 0, .int .i64 0, .int .i64 0, .int .i64 0] 29)) w.heap.size (.int .i64 mx) (.int .i64 cy) (.int .i64 ba) (.int .i64 n) (.int .i64 pr) (.int .i64 rc) := (at6_new 29 w _ (.int .i64 mx) (.int .i64 cy) (.int .i64 ba) (.int .i64 n) (.int .i64 pr) (.int .i64 rc) rfl).alloc _
  have hY : At6 29 ((w.alloc (.cells #[.int .i64 mx, .int .i64 cy, .int .i64 ba, .int .i64 n, .int .i64 pr, .int .i64 rc] 29)).alloc (.cells #[.int .i64 0, .int .i64 0, .int .i64 0, .int .i64 0, .int .i64 0, .int .i64 0] 29)) (w.heap.size + 1) (.int .i64 0) (.int .i64 0) (.int .i64 0) (.int .i64 0) (.int .i64 0) (.int .i64 0) := at6_new 29 _ _ (.int .i64 0) (.int .i64 0) (.int .i64 0) (.int .i64 0) (.int .i64 0) (.int .i64 0) (by simp)
  have hb : Below w.heap.size w ((w.alloc (.cells #[.int .i64 mx, .int .i64 cy, .int .i64 ba, .int .i64 n, .int .i64 pr, .int .i64 rc] 29)).alloc (.cells #[.int .i64 0, .int .i64 0, .int .i64 0, .int .i64 0, .int .i64 0, .int .i64 0] 29)) := ((Below.refl _ _).alloc (Nat.le_refl _) _).alloc (by simp) _
  go_enter Try.func13, Try.ntmps13
  go_upto_region 1 with fail
  generalize ((w.alloc (.cells #[.int .i64 mx, .int .i64 cy, .int .i64 ba, .int .i64 n, .int .i64 pr, .int .i64 rc] 29)).alloc (.cells #[.int .i64 0, .int .i64 0, .int .i64 0, .int .i64 0, .int .i64 0, .int .i64 0] 29)) = w2 at hX hY hb ⊢
  generalize hg2 : w.heap.size + 1 = g2 at hY ⊢
  generalize hg : w.heap.size = g at hX hb hg2 ⊢
  have hne : g ≠ g2 := by omega
  have hgle : g ≤ g2 := by omega
  have HG := Lib.hid hg
  clear hg hg2
  obtain ⟨_, _, _, _, _, _⟩ := hX.frees
  obtain ⟨_, _, _, _, _, _⟩ := hX.cells
  obtain ⟨_, _, _, _, _, _⟩ := hY.frees
  obtain ⟨_, _, _, _, _, _⟩ := hY.cells
  go_wp2_with fail
  have hZ := at6_store hY (.int .i64 n) (.int .i64 0) (.int .i64 n) (.int .i64 65537) (.int .i64 pr) (.int .i64 1)
  have hbz := hb.trans ((store6_only w2 g2 (.int .i64 n) (.int .i64 0) (.int .i64 n) (.int .i64 65537) (.int .i64 pr) (.int .i64 1)).below (by omega))
  obtain ⟨d0, d1, d2, d3, d4, d5⟩ := hZ.cells
  refine bodyPost_ret (v := .tuple #[.agg #[.int .i64 n, .int .i64 0, .int .i64 n, .int .i64 65537, .int .i64 pr, .int .i64 1], .bool true]) (by simp [results, Try.results13, go_sem, d0, d1, d2, d3, d4, d5]) rfl ⟨rfl, by rw [HG.out]; exact hbz⟩
set_option maxHeartbeats 800000 in
theorem refUpd8_any (mx cy ba bd pr rc n : Int) (m0 : 0 ≤ mx) (m1 : mx < 65536) (h0 : 0 ≤ n) (h1 : n < 65536) (a : Int) (ha : (n - mx + 65536) % 65536 = a) (a0 : 0 ≤ a) (a1 : a < 65536) (hp : pr ≤ 0) (r0 : 0 ≤ rc) (r1 : rc ≤ 1000000000000000000) (hf : 3000 ≤ a) (hl : a ≤ 65436) (q : Int) (hq : (n + 1) % 65536 = q) (q0 : 0 ≤ q) (q1 : q < 65536) (hb : (n == bd) = false) (w : World) :
    Calls Try.prog 13 #[.agg #[.int .i64 mx, .int .i64 cy, .int .i64 ba, .int .i64 bd, .int .i64 pr, .int .i64 rc], .int .i64 n] w fun e w' => e = .returned (.tuple #[.agg #[.int .i64 mx, .int .i64 cy, .int .i64 ba, .int .i64 q, .int .i64 pr, .int .i64 rc], .bool false]) ∧ Below w.heap.size w w' := by
  have hr1 : IntKind.i64.wrap (rc + 1) = rc + 1 := IntWalk.i64_in _ ⟨by omega, by omega⟩
  have hX : At6 29 ((w.alloc (.cells #[.int .i64 mx, .int .i64 cy, .int .i64 ba, .int .i64 bd, .int .i64 pr, .int .i64 rc] 29)).alloc (.cells #[.int .i64 0, .int .i64 0, .int .i64 0, .int .i64 0, .int .i64 0, .int .i64 0] 29)) w.heap.size (.int .i64 mx) (.int .i64 cy) (.int .i64 ba) (.int .i64 bd) (.int .i64 pr) (.int .i64 rc) := (at6_new 29 w _ (.int .i64 mx) (.int .i64 cy) (.int .i64 ba) (.int .i64 bd) (.int .i64 pr) (.int .i64 rc) rfl).alloc _
  have hY : At6 29 ((w.alloc (.cells #[.int .i64 mx, .int .i64 cy, .int .i64 ba, .int .i64 bd, .int .i64 pr, .int .i64 rc] 29)).alloc (.cells #[.int .i64 0, .int .i64 0, .int .i64 0, .int .i64 0, .int .i64 0, .int .i64 0] 29)) (w.heap.size + 1) (.int .i64 0) (.int .i64 0) (.int .i64 0) (.int .i64 0) (.int .i64 0) (.int .i64 0) := at6_new 29 _ _ (.int .i64 0) (.int .i64 0) (.int .i64 0) (.int .i64 0) (.int .i64 0) (.int .i64 0) (by simp)
  have hb : Below w.heap.size w ((w.alloc (.cells #[.int .i64 mx, .int .i64 cy, .int .i64 ba, .int .i64 bd, .int .i64 pr, .int .i64 rc] 29)).alloc (.cells #[.int .i64 0, .int .i64 0, .int .i64 0, .int .i64 0, .int .i64 0, .int .i64 0] 29)) := ((Below.refl _ _).alloc (Nat.le_refl _) _).alloc (by simp) _
  go_enter Try.func13, Try.ntmps13
  go_upto_region 1 with fail
  generalize ((w.alloc (.cells #[.int .i64 mx, .int .i64 cy, .int .i64 ba, .int .i64 bd, .int .i64 pr, .int .i64 rc] 29)).alloc (.cells #[.int .i64 0, .int .i64 0, .int .i64 0, .int .i64 0, .int .i64 0, .int .i64 0] 29)) = w2 at hX hY hb ⊢
  generalize hg2 : w.heap.size + 1 = g2 at hY ⊢
  generalize hg : w.heap.size = g at hX hb hg2 ⊢
  have hne : g ≠ g2 := by omega
  have hgle : g ≤ g2 := by omega
  have HG := Lib.hid hg
  clear hg hg2
  obtain ⟨_, _, _, _, _, _⟩ := hX.frees
  obtain ⟨_, _, _, _, _, _⟩ := hX.cells
  obtain ⟨_, _, _, _, _, _⟩ := hY.frees
  obtain ⟨_, _, _, _, _, _⟩ := hY.cells
  go_upto_region 24 with fail
  have hX3 := (at6_set3 hX (.int .i64 q))
  have ho3 := ((Only.refl g w2).setCell 3 (.int .i64 q))
  have hY3 := hY.only (fun e => hne e.symm) ho3
  have hb3 := hb.trans (ho3.below (Nat.le_refl _))
  generalize (w2.setCell ⟨g, 3, none⟩ (.int .i64 q)) = w3 at hX3 hY3 hb3 ⊢
  clear ho3
  obtain ⟨_, _, _, _, _, _⟩ := hX3.frees
  obtain ⟨_, _, _, _, _, _⟩ := hX3.cells
  obtain ⟨_, _, _, _, _, _⟩ := hY3.frees
  obtain ⟨_, _, _, _, _, _⟩ := hY3.cells
  go_wp2_with fail
  have hZ := at6_store hY3 (.int .i64 mx) (.int .i64 cy) (.int .i64 ba) (.int .i64 q) (.int .i64 pr) (.int .i64 rc)
  have hbz := hb3.trans ((store6_only w3 g2 (.int .i64 mx) (.int .i64 cy) (.int .i64 ba) (.int .i64 q) (.int .i64 pr) (.int .i64 rc)).below (by omega))
  obtain ⟨d0, d1, d2, d3, d4, d5⟩ := hZ.cells
  refine bodyPost_ret (v := .tuple #[.agg #[.int .i64 mx, .int .i64 cy, .int .i64 ba, .int .i64 q, .int .i64 pr, .int .i64 rc], .bool false]) (by simp [results, Try.results13, go_sem, d0, d1, d2, d3, d4, d5]) rfl ⟨rfl, by rw [HG.out]; exact hbz⟩
end Go.Proofs.Ytncpepbpphpkoaa
