/- LifeWeights: the walk. -/
import Derived.Test.YtggcfoegpadepaaDoorLfL
import Derived.Test.YtggcfoegpadepaaDoorLfI
namespace Go.Proofs.YtggcfoegpadepaaDoor
open Go.RowKit
set_option linter.unusedVariables false
theorem at4_set0 {T : TypeId} {W : World} {g : Nat} {c0 c1 c2 c3 : Value} (h : At4 T W g c0 c1 c2 c3) (u : Value) : At4 T (W.setCell ⟨g, 0, none⟩ u) g u c1 c2 c3 := block_setCell h
theorem at4_set1 {T : TypeId} {W : World} {g : Nat} {c0 c1 c2 c3 : Value} (h : At4 T W g c0 c1 c2 c3) (u : Value) : At4 T (W.setCell ⟨g, 1, none⟩ u) g c0 u c2 c3 := block_setCell h
theorem at4_set2 {T : TypeId} {W : World} {g : Nat} {c0 c1 c2 c3 : Value} (h : At4 T W g c0 c1 c2 c3) (u : Value) : At4 T (W.setCell ⟨g, 2, none⟩ u) g c0 c1 u c3 := block_setCell h
theorem at4_set3 {T : TypeId} {W : World} {g : Nat} {c0 c1 c2 c3 : Value} (h : At4 T W g c0 c1 c2 c3) (u : Value) : At4 T (W.setCell ⟨g, 3, none⟩ u) g c0 c1 c2 u := block_setCell h
theorem wgt_of (j : Nat) (hj : j ≤ 3) (h k r : Int) (v : Int) (hv : wgt j (am 1 r 65535) = v) (w : World) (htd : Td w) : Calls Tryd.prog 13 #[.agg #[.int .i64 j, .int .i64 h, .int .i64 k], .int .i64 r] w fun e w' => e = .returned (.int .i64 v) ∧ Below w.heap.size w w' := by
  subst hv
  have := weight_any ⟨j, h, k⟩ r w htd
  rw [show (LL.cnt ⟨j, h, k⟩).s = (j : Int) from stk_id (j : Int) (by omega) (by omega)] at this
  exact this
/-- The cell of one that is passed already. -/
def cel (k j : Nat) (v : Int) : Value := .int .i64 (if j < k then v else 0)
namespace lifeWeights
set_option maxRecDepth 100000 in
set_option maxHeartbeats 3200000 in
theorem walk (a0 a1 a2 : Int) (w0 : (Lit.int .i64 a0).wf = true) (w1 : (Lit.int .i64 a1).wf = true) (w2 : (Lit.int .i64 a2).wf = true) (w : World) (htb : Tb w) (htd : Td w) :
    Calls Tryd.prog 5 #[.int .i64 a0, .int .i64 a1, .int .i64 a2] w fun e w' => e = .returned (.bool true) ∧ Below w.heap.size w w' := by
  have m0 := am_lo 1 a0 65535 (by omega)
  have m1 := am_alt 1 a0 65535 (by omega)
  obtain ⟨v0, hv0⟩ : ∃ v, wgt (0 : Nat) (am 1 a0 65535) = v := ⟨_, rfl⟩
  obtain ⟨v1, hv1⟩ : ∃ v, wgt (1 : Nat) (am 1 a0 65535) = v := ⟨_, rfl⟩
  obtain ⟨v2, hv2⟩ : ∃ v, wgt (2 : Nat) (am 1 a0 65535) = v := ⟨_, rfl⟩
  obtain ⟨v3, hv3⟩ : ∃ v, wgt (3 : Nat) (am 1 a0 65535) = v := ⟨_, rfl⟩
  have W0 := Lib.hid (fun (W : World) (hb : Below w.heap.size w W) => wgt_of 0 (by omega) a1 a2 a0 v0 hv0 W (htd.later hb))
  have W1 := Lib.hid (fun (W : World) (hb : Below w.heap.size w W) => wgt_of 1 (by omega) a1 a2 a0 v1 hv1 W (htd.later hb))
  have W2 := Lib.hid (fun (W : World) (hb : Below w.heap.size w W) => wgt_of 2 (by omega) a1 a2 a0 v2 hv2 W (htd.later hb))
  have W3 := Lib.hid (fun (W : World) (hb : Below w.heap.size w W) => wgt_of 3 (by omega) a1 a2 a0 v3 hv3 W (htd.later hb))
  have S0 := Lib.hid (fun W => sends_of 0 a1 a2 true (by rfl) W)
  have S1 := Lib.hid (fun W => sends_of 1 a1 a2 true (by rfl) W)
  have S2 := Lib.hid (fun W => sends_of 2 a1 a2 true (by rfl) W)
  have S3 := Lib.hid (fun W => sends_of 3 a1 a2 false (by rfl) W)
  have e0 : v2 ≤ v1 := by subst hv1 hv2; simp only [wgt]; simp; omega
  have e1 : v0 ≤ v2 := by subst hv0 hv2; simp only [wgt]; simp; omega
  have e2 : 1 ≤ v0 := by subst hv0; simp only [wgt]; simp; omega
  have e3 : v3 = 0 := by subst hv3; simp [wgt]
  have e4 : (v1 == max 1 (min a0 65535)) = true := by subst hv1; rw [m1]; simp [wgt]
  have HA := Lib.hid (lfAwake_any w htb)
  clear hv0 hv1 hv2 hv3 htb htd m0 m1
  subst e3
  go_enter Tryd.func5, Tryd.ntmps5
  go_wp2_with fail
  refine HA.out.mono ?_
  rintro e wa ⟨rfl, hba⟩
  have hX : At4 45 (wa.alloc (.cells #[.int .i64 0, .int .i64 0, .int .i64 0, .int .i64 0] 45)) wa.heap.size (.int .i64 0) (.int .i64 0) (.int .i64 0) (.int .i64 0) := at4_new 45 wa _ (.int .i64 0) (.int .i64 0) (.int .i64 0) (.int .i64 0) rfl
  have hb := hba.alloc hba.size (.cells #[.int .i64 0, .int .i64 0, .int .i64 0, .int .i64 0] 45)
  have hsz := hba.size
  go_upto_region 4 with fail
  generalize (wa.alloc (.cells #[.int .i64 0, .int .i64 0, .int .i64 0, .int .i64 0] 45)) = wb at hX hb ⊢
  generalize wa.heap.size = g at hX hsz ⊢
  clear hba HA
  go_wp2_with fail
  go_loopw [12] (fun i wr => ∃ (k : Nat), k ≤ 4 ∧ i = .int .i64 k ∧ At4 45 wr g (cel k 0 v0) (cel k 1 v1) (cel k 2 v2) (cel k 3 0) ∧ Below w.heap.size w wr) (fun i _ => 4 - (intOf i).toNat)
  case atStart => exact ⟨0, by omega, rfl, hX, hb⟩
  case round =>
    obtain ⟨k, hk, rfl, hXk, hbk⟩ := hrel
    clear hX hb
    have hlt := hXk.lt
    match k, hk, hXk with
    | 0, _, hXk =>
      have hXk : At4 45 wr g (.int .i64 0) (.int .i64 0) (.int .i64 0) (.int .i64 0) := hXk
      have hN := at3_new 28 wr _ (.int .i64 0) (.int .i64 a1) (.int .i64 a2) rfl
      have hXn := hXk.alloc (.cells #[.int .i64 0, .int .i64 a1, .int .i64 a2] 28)
      have hbn := hbk.alloc (by omega) (.cells #[.int .i64 0, .int .i64 a1, .int .i64 a2] 28)
      have hgn : g < wr.heap.size := hlt
      go_upto_region 8 with fail
      generalize wr.alloc (.cells #[.int .i64 0, .int .i64 a1, .int .i64 a2] 28) = w3 at hN hXn hbn ⊢
      generalize wr.heap.size = gn at hN hgn ⊢
      clear hXk hbk hlt
      obtain ⟨_, _, _⟩ := hN.cells
      go_wp2_with fail
      refine (W0.out w3 hbn).mono ?_
      rintro e w4 ⟨rfl, hk4⟩
      have hN4 := hN.later hk4
      have hX4 := hXn.later hk4
      have hb4 := hbn.trans (hk4.mono (by have := hXn.lt; omega))
      obtain ⟨_, _, _⟩ := hN4.cells
      obtain ⟨_, _, _, _⟩ := hX4.frees
      obtain ⟨_, _, _, _⟩ := hX4.cells
      go_upto_region 9 with fail
      have hX5 := at4_set0 hX4 (.int .i64 v0)
      have ho5 := (Only.refl g w4).setCell 0 (.int .i64 v0)
      have hN5 := hN4.only (Nat.ne_of_gt hgn) ho5
      have hb5 := hb4.trans (ho5.below hsz)
      generalize w4.setCell ⟨g, 0, none⟩ (.int .i64 v0) = w5 at hX5 hN5 hb5 ⊢
      clear ho5
      obtain ⟨_, _, _⟩ := hN5.cells
      go_wp2_with fail
      refine (S0.out w5).mono ?_
      rintro e w6 ⟨rfl, hk6⟩
      have hX6 := hX5.later hk6
      have hb6 := hb5.trans (hk6.mono (by have := hX5.lt; omega))
      go_wp2_with fail
      go_roundw
      case rel => exact ⟨1, by omega, rfl, hX6, hb6⟩
      case measure => simp [intOf]
    | 1, _, hXk =>
      have hXk : At4 45 wr g (.int .i64 v0) (.int .i64 0) (.int .i64 0) (.int .i64 0) := hXk
      have hN := at3_new 28 wr _ (.int .i64 1) (.int .i64 a1) (.int .i64 a2) rfl
      have hXn := hXk.alloc (.cells #[.int .i64 1, .int .i64 a1, .int .i64 a2] 28)
      have hbn := hbk.alloc (by omega) (.cells #[.int .i64 1, .int .i64 a1, .int .i64 a2] 28)
      have hgn : g < wr.heap.size := hlt
      go_upto_region 8 with fail
      generalize wr.alloc (.cells #[.int .i64 1, .int .i64 a1, .int .i64 a2] 28) = w3 at hN hXn hbn ⊢
      generalize wr.heap.size = gn at hN hgn ⊢
      clear hXk hbk hlt
      obtain ⟨_, _, _⟩ := hN.cells
      go_wp2_with fail
      refine (W1.out w3 hbn).mono ?_
      rintro e w4 ⟨rfl, hk4⟩
      have hN4 := hN.later hk4
      have hX4 := hXn.later hk4
      have hb4 := hbn.trans (hk4.mono (by have := hXn.lt; omega))
      obtain ⟨_, _, _⟩ := hN4.cells
      obtain ⟨_, _, _, _⟩ := hX4.frees
      obtain ⟨_, _, _, _⟩ := hX4.cells
      go_upto_region 9 with fail
      have hX5 := at4_set1 hX4 (.int .i64 v1)
      have ho5 := (Only.refl g w4).setCell 1 (.int .i64 v1)
      have hN5 := hN4.only (Nat.ne_of_gt hgn) ho5
      have hb5 := hb4.trans (ho5.below hsz)
      generalize w4.setCell ⟨g, 1, none⟩ (.int .i64 v1) = w5 at hX5 hN5 hb5 ⊢
      clear ho5
      obtain ⟨_, _, _⟩ := hN5.cells
      go_wp2_with fail
      refine (S1.out w5).mono ?_
      rintro e w6 ⟨rfl, hk6⟩
      have hX6 := hX5.later hk6
      have hb6 := hb5.trans (hk6.mono (by have := hX5.lt; omega))
      go_wp2_with fail
      go_roundw
      case rel => exact ⟨2, by omega, rfl, hX6, hb6⟩
      case measure => simp [intOf]
    | 2, _, hXk =>
      have hXk : At4 45 wr g (.int .i64 v0) (.int .i64 v1) (.int .i64 0) (.int .i64 0) := hXk
      have hN := at3_new 28 wr _ (.int .i64 2) (.int .i64 a1) (.int .i64 a2) rfl
      have hXn := hXk.alloc (.cells #[.int .i64 2, .int .i64 a1, .int .i64 a2] 28)
      have hbn := hbk.alloc (by omega) (.cells #[.int .i64 2, .int .i64 a1, .int .i64 a2] 28)
      have hgn : g < wr.heap.size := hlt
      go_upto_region 8 with fail
      generalize wr.alloc (.cells #[.int .i64 2, .int .i64 a1, .int .i64 a2] 28) = w3 at hN hXn hbn ⊢
      generalize wr.heap.size = gn at hN hgn ⊢
      clear hXk hbk hlt
      obtain ⟨_, _, _⟩ := hN.cells
      go_wp2_with fail
      refine (W2.out w3 hbn).mono ?_
      rintro e w4 ⟨rfl, hk4⟩
      have hN4 := hN.later hk4
      have hX4 := hXn.later hk4
      have hb4 := hbn.trans (hk4.mono (by have := hXn.lt; omega))
      obtain ⟨_, _, _⟩ := hN4.cells
      obtain ⟨_, _, _, _⟩ := hX4.frees
      obtain ⟨_, _, _, _⟩ := hX4.cells
      go_upto_region 9 with fail
      have hX5 := at4_set2 hX4 (.int .i64 v2)
      have ho5 := (Only.refl g w4).setCell 2 (.int .i64 v2)
      have hN5 := hN4.only (Nat.ne_of_gt hgn) ho5
      have hb5 := hb4.trans (ho5.below hsz)
      generalize w4.setCell ⟨g, 2, none⟩ (.int .i64 v2) = w5 at hX5 hN5 hb5 ⊢
      clear ho5
      obtain ⟨_, _, _⟩ := hN5.cells
      go_wp2_with fail
      refine (S2.out w5).mono ?_
      rintro e w6 ⟨rfl, hk6⟩
      have hX6 := hX5.later hk6
      have hb6 := hb5.trans (hk6.mono (by have := hX5.lt; omega))
      go_wp2_with fail
      go_roundw
      case rel => exact ⟨3, by omega, rfl, hX6, hb6⟩
      case measure => simp [intOf]
    | 3, _, hXk =>
      have hXk : At4 45 wr g (.int .i64 v0) (.int .i64 v1) (.int .i64 v2) (.int .i64 0) := hXk
      have hN := at3_new 28 wr _ (.int .i64 3) (.int .i64 a1) (.int .i64 a2) rfl
      have hXn := hXk.alloc (.cells #[.int .i64 3, .int .i64 a1, .int .i64 a2] 28)
      have hbn := hbk.alloc (by omega) (.cells #[.int .i64 3, .int .i64 a1, .int .i64 a2] 28)
      have hgn : g < wr.heap.size := hlt
      go_upto_region 8 with fail
      generalize wr.alloc (.cells #[.int .i64 3, .int .i64 a1, .int .i64 a2] 28) = w3 at hN hXn hbn ⊢
      generalize wr.heap.size = gn at hN hgn ⊢
      clear hXk hbk hlt
      obtain ⟨_, _, _⟩ := hN.cells
      go_wp2_with fail
      refine (W3.out w3 hbn).mono ?_
      rintro e w4 ⟨rfl, hk4⟩
      have hN4 := hN.later hk4
      have hX4 := hXn.later hk4
      have hb4 := hbn.trans (hk4.mono (by have := hXn.lt; omega))
      obtain ⟨_, _, _⟩ := hN4.cells
      obtain ⟨_, _, _, _⟩ := hX4.frees
      obtain ⟨_, _, _, _⟩ := hX4.cells
      go_upto_region 9 with fail
      have hX5 := at4_set3 hX4 (.int .i64 0)
      have ho5 := (Only.refl g w4).setCell 3 (.int .i64 0)
      have hN5 := hN4.only (Nat.ne_of_gt hgn) ho5
      have hb5 := hb4.trans (ho5.below hsz)
      generalize w4.setCell ⟨g, 3, none⟩ (.int .i64 0) = w5 at hX5 hN5 hb5 ⊢
      clear ho5
      obtain ⟨_, _, _⟩ := hN5.cells
      go_wp2_with fail
      refine (S3.out w5).mono ?_
      rintro e w6 ⟨rfl, hk6⟩
      have hX6 := hX5.later hk6
      have hb6 := hb5.trans (hk6.mono (by have := hX5.lt; omega))
      go_wp2_with fail
      go_roundw
      case rel => exact ⟨4, by omega, rfl, hX6, hb6⟩
      case measure => simp [intOf]
    | 4, _, hXk =>
      have hXk : At4 45 wr g (.int .i64 v0) (.int .i64 v1) (.int .i64 v2) (.int .i64 0) := hXk
      obtain ⟨_, _, _, _⟩ := hXk.cells
      go_wp2_with fail
      go_ret
      exact ⟨by first | rfl | simp, hbk⟩
    | k + 5, hk, _ => exact absurd hk (by omega)
end lifeWeights
end Go.Proofs.YtggcfoegpadepaaDoor
