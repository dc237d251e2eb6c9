/- life: Tick, Weight. -/
import Derived.Test.YtggcfoegpadepaaDoorLfE
namespace Go.Proofs.YtggcfoegpadepaaDoor
open Go.RowKit
set_option linter.unusedVariables false
set_option maxHeartbeats 3200000 in
theorem tick0_t (l : LL) (c : LC) (now : Int) (n : Nat) (h1 k1 : Int) (c1 : LC) (nw : Int) (hl : l.cnt = ⟨n, h1, k1⟩) (hc : c.clip = c1) (hw : am 0 now 1099511627776 = nw) (hs : n = 3) (w : World) : Calls Tryd.prog 10 #[l.val, c.val, .int .i64 now] w fun e w' => e = .returned (.tuple #[.agg #[.int .i64 n, .int .i64 h1, .int .i64 k1], .bool false]) ∧ Below w.heap.size w w' := by
  have HCl := Lib.hid (fun W => lfClip_any c W)
  have HCn := Lib.hid (fun W => cntd_any l W)
  have ho := l.cnt_ok
  have hco := c.clip_ok
  rw [hl] at HCn ho
  rw [hc] at HCl hco
  have HN : Hid (∀ W : World, Calls Tryd.prog 26 #[.int .i64 now] W fun e w' => e = .returned (.int .i64 nw) ∧ w' = W) := Lib.hid (by rw [← hw]; exact fun W => lfTick_q now W)
  have hn0 : 0 ≤ nw := by rw [← hw]; exact am_lo _ _ _ (by omega)
  have hn1 : nw ≤ 1099511627776 := by rw [← hw]; exact am_hi _ _ _
  clear hl hc hw
  obtain ⟨s, h, k⟩ := l
  obtain ⟨T, lo, hi, st⟩ := c
  obtain ⟨T1, lo1, hi1, st1⟩ := c1
  obtain ⟨o1, o2, o3, o4, o5⟩ := ho
  obtain ⟨q1, q2, q3, q4, q5, q6, q7⟩ := hco
  simp only [LL.val, LC.val] at *
  have HS := Lib.hid (fun W => sends_of n h1 k1 false (by subst hs; rfl) W)
  have hwr : IntKind.i64.wrap (nw - h1) = nw - h1 := IntWalk.i64_in _ ⟨by omega, by omega⟩
  clear o1 o2
  clear hs
  have hX0 : At3 28 (((w.alloc (.cells #[.int .i64 s, .int .i64 h, .int .i64 k] 28)).alloc (.cells #[.int .i64 T, .int .i64 lo, .int .i64 hi, .int .i64 st] 33)).alloc (.cells #[.int .i64 0, .int .i64 0, .int .i64 0] 28)) w.heap.size (.int .i64 s) (.int .i64 h) (.int .i64 k) := ((at3_new 28 _ _ (.int .i64 s) (.int .i64 h) (.int .i64 k) rfl).alloc _).alloc _
  have hX1 : At4 33 (((w.alloc (.cells #[.int .i64 s, .int .i64 h, .int .i64 k] 28)).alloc (.cells #[.int .i64 T, .int .i64 lo, .int .i64 hi, .int .i64 st] 33)).alloc (.cells #[.int .i64 0, .int .i64 0, .int .i64 0] 28)) (w.heap.size + 1) (.int .i64 T) (.int .i64 lo) (.int .i64 hi) (.int .i64 st) := (at4_new 33 _ _ (.int .i64 T) (.int .i64 lo) (.int .i64 hi) (.int .i64 st) (by simp)).alloc _
  have hX2 : At3 28 (((w.alloc (.cells #[.int .i64 s, .int .i64 h, .int .i64 k] 28)).alloc (.cells #[.int .i64 T, .int .i64 lo, .int .i64 hi, .int .i64 st] 33)).alloc (.cells #[.int .i64 0, .int .i64 0, .int .i64 0] 28)) (w.heap.size + 1 + 1) (.int .i64 0) (.int .i64 0) (.int .i64 0) := at3_new 28 _ _ (.int .i64 0) (.int .i64 0) (.int .i64 0) (by simp)
  have hb : Below w.heap.size w (((w.alloc (.cells #[.int .i64 s, .int .i64 h, .int .i64 k] 28)).alloc (.cells #[.int .i64 T, .int .i64 lo, .int .i64 hi, .int .i64 st] 33)).alloc (.cells #[.int .i64 0, .int .i64 0, .int .i64 0] 28)) := (((Below.refl _ _).alloc (Nat.le_refl _) _).alloc (by simp) _).alloc (by simp; omega) _
  go_enter Tryd.func10, Tryd.ntmps10
  go_upto_region 1 with fail
  generalize (((w.alloc (.cells #[.int .i64 s, .int .i64 h, .int .i64 k] 28)).alloc (.cells #[.int .i64 T, .int .i64 lo, .int .i64 hi, .int .i64 st] 33)).alloc (.cells #[.int .i64 0, .int .i64 0, .int .i64 0] 28)) = w2 at hX0 hX1 hX2 hb ⊢
  generalize hg2 : w.heap.size + 1 + 1 = g2 at hX2 ⊢
  generalize hg1 : w.heap.size + 1 = g1 at hX1 hg2 ⊢
  generalize hg0 : w.heap.size = g0 at hX0 hb hg1 ⊢
  have hne01 : g0 ≠ g1 := by omega
  have hne02 : g0 ≠ g2 := by omega
  have hle1 : g0 ≤ g1 := by omega
  have hne10 : g1 ≠ g0 := by omega
  have hne12 : g1 ≠ g2 := by omega
  have hle2 : g0 ≤ g2 := by omega
  have hne20 : g2 ≠ g0 := by omega
  have hne21 : g2 ≠ g1 := by omega
  have HG := Lib.hid hg0
  clear hg0 hg1 hg2
  obtain ⟨_, _, _⟩ := hX0.frees
  obtain ⟨_, _, _⟩ := hX0.cells
  obtain ⟨_, _, _, _⟩ := hX1.frees
  obtain ⟨_, _, _, _⟩ := hX1.cells
  obtain ⟨_, _, _⟩ := hX2.frees
  obtain ⟨_, _, _⟩ := hX2.cells
  go_cut [] (fun wx => At3 28 wx g0 (.int .i64 n) (.int .i64 h1) (.int .i64 k1) ∧ At4 33 wx g1 (.int .i64 T1) (.int .i64 lo1) (.int .i64 hi1) (.int .i64 st1) ∧ At3 28 wx g2 (.int .i64 0) (.int .i64 0) (.int .i64 0) ∧ Below g0 w wx)
  case first =>
    go_region_with (first | (go_at_call 15; refine (HCl.out _).mono ?_; rintro e w3 ⟨rfl, hk3⟩; have hX0_3 := hX0.drew.later hk3; have hX1_3 := hX1.drew.later hk3; have hX2_3 := hX2.drew.later hk3; have hb3 : Below g0 w w3 := hb.drew.trans (hk3.mono (by have := hX0.lt; show g0 ≤ w2.heap.size; omega)); obtain ⟨_, _, _⟩ := hX0_3.cells) | (go_at_call 25; refine (HCn.out _).mono ?_; rintro e w4 ⟨rfl, hk4⟩; have hX0_4 := hX0_3.later hk4; have hX1_4 := hX1_3.later hk4; have hX2_4 := hX2_3.later hk4; have hb4 : Below g0 w w4 := hb3.trans (hk4.mono (by have := hX0_3.lt; omega)); obtain ⟨_, _, _⟩ := hX0_4.frees; obtain ⟨_, _, _⟩ := hX0_4.cells; obtain ⟨_, _, _, _⟩ := hX1_4.frees; obtain ⟨_, _, _, _⟩ := hX1_4.cells))
    all_goals
      go_wp2_with fail
      go_meet
      exact ⟨at3_store (hX0_4.only hne01 (put4_only w4 g1 (.int .i64 T1) (.int .i64 lo1) (.int .i64 hi1) (.int .i64 st1))) (.int .i64 n) (.int .i64 h1) (.int .i64 k1), (at4_put hX1_4 (.int .i64 T1) (.int .i64 lo1) (.int .i64 hi1) (.int .i64 st1)).only hne10 (store3_only _ g0 (.int .i64 n) (.int .i64 h1) (.int .i64 k1)), (hX2_4.only hne21 (put4_only w4 g1 (.int .i64 T1) (.int .i64 lo1) (.int .i64 hi1) (.int .i64 st1))).only hne20 (store3_only _ g0 (.int .i64 n) (.int .i64 h1) (.int .i64 k1)), (hb4.trans ((put4_only w4 g1 (.int .i64 T1) (.int .i64 lo1) (.int .i64 hi1) (.int .i64 st1)).below hle1)).trans ((store3_only _ g0 (.int .i64 n) (.int .i64 h1) (.int .i64 k1)).below (Nat.le_refl _))⟩
  case rest =>
  obtain ⟨hX0_5, hX1_5, hX2_5, hb5⟩ := hcut
  clear hX0 hX1 hX2 hb HCl HCn
  rename World => w5
  obtain ⟨_, _, _⟩ := hX0_5.frees
  obtain ⟨_, _, _⟩ := hX0_5.cells
  obtain ⟨_, _, _, _⟩ := hX1_5.frees
  obtain ⟨_, _, _, _⟩ := hX1_5.cells
  obtain ⟨_, _, _⟩ := hX2_5.frees
  obtain ⟨_, _, _⟩ := hX2_5.cells
  go_upto_region 2 with fail
  go_cut [24] (fun z wx => z = .bool true ∧ At3 28 wx g0 (.int .i64 n) (.int .i64 h1) (.int .i64 k1) ∧ At3 28 wx g2 (.int .i64 0) (.int .i64 0) (.int .i64 0) ∧ Below g0 w wx)
  case first =>
    obtain ⟨_, _, _⟩ := hX0_5.drew.cells
    first | go_region_law (first | (go_simp; go_at_call 12; refine (HS.out _).mono ?_; rintro e w7 ⟨rfl, hk7⟩; have hX0_7 := hX0_5.drew.later hk7; have hX2_7 := hX2_5.drew.later hk7; have hb7 : Below g0 w w7 := hb5.drew.trans (hk7.mono (by have := hX0_5.lt; show g0 ≤ w5.heap.size; omega)))) | fail "region"
    all_goals
      go_wp2_with fail
      go_meet
      exact ⟨rfl, hX0_7, hX2_7, hb7⟩
  case rest =>
  obtain ⟨rfl, hX0_9, hX2_9, hb9⟩ := hcut
  clear hX0_5 hX1_5 hX2_5 hb5 HS HN
  rename World => w9
  obtain ⟨_, _, _⟩ := hX0_9.frees
  obtain ⟨_, _, _⟩ := hX0_9.cells
  obtain ⟨_, _, _⟩ := hX2_9.frees
  obtain ⟨_, _, _⟩ := hX2_9.cells
  have hZ := at3_store hX2_9 (.int .i64 n) (.int .i64 h1) (.int .i64 k1)
  have hbz := hb9.trans ((store3_only w9 g2 (.int .i64 n) (.int .i64 h1) (.int .i64 k1)).below hle2)
  obtain ⟨d0, d1, d2⟩ := hZ.cells
  go_wp2_with fail
  refine bodyPost_ret (v := .tuple #[.agg #[.int .i64 n, .int .i64 h1, .int .i64 k1], .bool false]) (by simp [results, Tryd.results10, go_sem, d0, d1, d2]) rfl ⟨rfl, by rw [HG.out]; exact hbz⟩
end Go.Proofs.YtggcfoegpadepaaDoor
