/- DelayPlays: the walk. -/
import Derived.Test.YtkefpedijjbmfaaDlG
import Derived.Test.YtkefpedijjbmfaaBls
import Derived.Test.YtkefpedijjbmfaaOrdM
namespace Go.Proofs.Ytkefpedijjbmfaa
open Go.RowKit
set_option linter.unusedVariables false
/-- What both sides do, in values. -/
theorem dlJit_both (q : DL) (j : Int) : ∃ n0 n1 n2 : Int, decide (n2 < n0) = false ∧ decide (n1 < n2) = false ∧
    (∀ w : World, Calls Try.prog 10 #[.agg #[.int .i64 q.a, .int .i64 q.b, .int .i64 q.c], .int .i64 j] w fun e w' => e = .returned (.agg #[.int .i64 n0, .int .i64 n1, .int .i64 n2]) ∧ Below w.heap.size w w') ∧
    (∀ w : World, Calls Try.prog 11 #[.agg #[.int .i64 q.a, .int .i64 q.b, .int .i64 q.c], .int .i64 j] w fun e w' => e = .returned (.agg #[.int .i64 n0, .int .i64 n1, .int .i64 n2]) ∧ Below w.heap.size w w') :=
  ⟨(q.jit j).a, (q.jit j).b, (q.jit j).c, by rw [decide_eq_false_iff_not]; have := (q.jit_ok j).ac; omega, by rw [decide_eq_false_iff_not]; have := (q.jit_ok j).cb; omega, fun w => dlJit_any q j w, fun w => refDlJit_any q j w⟩
theorem dlLate_both (q : DL) (j : Int) : ∃ n0 n1 n2 : Int, decide (n2 < n0) = false ∧ decide (n1 < n2) = false ∧
    (∀ w : World, Calls Try.prog 8 #[.agg #[.int .i64 q.a, .int .i64 q.b, .int .i64 q.c], .int .i64 j] w fun e w' => e = .returned (.agg #[.int .i64 n0, .int .i64 n1, .int .i64 n2]) ∧ Below w.heap.size w w') ∧
    (∀ w : World, Calls Try.prog 9 #[.agg #[.int .i64 q.a, .int .i64 q.b, .int .i64 q.c], .int .i64 j] w fun e w' => e = .returned (.agg #[.int .i64 n0, .int .i64 n1, .int .i64 n2]) ∧ Below w.heap.size w w') :=
  ⟨(q.late j).a, (q.late j).b, (q.late j).c, by rw [decide_eq_false_iff_not]; have := (q.late_ok j).ac; omega, by rw [decide_eq_false_iff_not]; have := (q.late_ok j).cb; omega, fun w => dlLate_any q j w, fun w => refDlLate_any q j w⟩
namespace delayPlays
set_option maxRecDepth 100000 in
set_option maxHeartbeats 6400000 in
theorem walk (a00 a01 a02 : Int) (p1 : Option Addr) (len1 cap1 : Nat) (z1 : List Int) (p2 : Option Addr) (len2 cap2 : Nat) (B : Nat → Bool) (w00 : (Lit.int .i64 a00).wf = true) (w01 : (Lit.int .i64 a01).wf = true) (w02 : (Lit.int .i64 a02).wf = true) (w : World) (w1 : IsRow .i64 w p1 len1 cap1 z1) (w2 : IsBools w p2 len2 B) :
    Calls Try.prog 3 #[.agg #[.int .i64 a00, .int .i64 a01, .int .i64 a02], .slice p1 len1 cap1, .slice p2 len2 cap2] w fun e w' => e = .returned (.bool true) ∧ Below w.heap.size w w' := by
  obtain ⟨es, rfl, l1, l2, hr0, hwf⟩ := w1.reads
  clear w00 w01 w02 w1 hwf
  have HR := Lib.hid (fun (W : World) (h : Below w.heap.size w W) => hr0.later h)
  have HBL := Lib.hid (fun (W : World) (h : Below w.heap.size w W) => w2.later h)
  clear hr0 w2
  have HA := Lib.hid (fun (W : World) => dlAwake_any W)
  have HN : Hid (∀ W, Calls Try.prog 12 #[.int .i64 a00, .int .i64 a01] W fun e w' => e = .returned (DL.fit ⟨a00, a01, a00⟩).val ∧ Below W.heap.size W w') := Lib.hid (fun W => by
    have h := dlNew_any a00 a01 W
    rw [DL.fit_new] at h
    exact h)
  have HF := Lib.hid (fun (W : World) => refDlFit_any ⟨a00, a01, a00⟩ W)
  have HRN : Hid (∀ W, Calls Try.prog 14 #[.agg #[.int .i64 a00, .int .i64 a01, .int .i64 a02], .slice none 0 0] W fun e w' => e = .returned (DL.fit ⟨a00, a01, a02⟩).val ∧ Below W.heap.size W w') := Lib.hid (fun W => dlRun_any ⟨a00, a01, a02⟩ [] none 0 0 rfl W (.inl rfl) (by simp))
  have HF2 := Lib.hid (fun (W : World) => refDlFit_any ⟨a00, a01, a02⟩ W)
  generalize DL.fit ⟨a00, a01, a00⟩ = ff at HN HF
  obtain ⟨f0, f1, f2⟩ := ff
  generalize DL.fit ⟨a00, a01, a02⟩ = gg at HRN HF2
  obtain ⟨h0, h1, h2⟩ := gg
  simp only [DL.val] at HN HF HRN HF2
  have HJT := Lib.hid dlJit_both
  have HLT := Lib.hid dlLate_both
  have hX0 : At3 23 (w.alloc (.cells #[.int .i64 a00, .int .i64 a01, .int .i64 a02] 23)) w.heap.size (.int .i64 a00) (.int .i64 a01) (.int .i64 a02) := at3_new 23 _ _ (.int .i64 a00) (.int .i64 a01) (.int .i64 a02) rfl
  have hb : Below w.heap.size w (w.alloc (.cells #[.int .i64 a00, .int .i64 a01, .int .i64 a02] 23)) := (Below.refl _ _).alloc (Nat.le_refl _) _
  go_enter Try.func3, Try.ntmps3
  go_upto_region 1 with fail
  generalize (w.alloc (.cells #[.int .i64 a00, .int .i64 a01, .int .i64 a02] 23)) = w2 at hX0 hb ⊢
  generalize hg0 : w.heap.size = g0 at hX0 hb ⊢
  have HG := Lib.hid hg0
  clear hg0
  obtain ⟨_, _, _⟩ := hX0.frees
  obtain ⟨_, _, _⟩ := hX0.cells
  go_wp2_with fail
  refine (HA.out _).mono ?_
  rintro e w3 ⟨rfl, hk3⟩
  have hX0_3 := hX0.later hk3
  have hb3 := hb.trans (hk3.mono (by have := hX0.lt; omega))
  obtain ⟨_, _, _⟩ := hX0_3.frees
  obtain ⟨_, _, _⟩ := hX0_3.cells
  clear HA
  go_upto_region 3 with fail
  have hl0 := hX0_3.lt
  go_cut [7, 8] (fun y z wx => ∃ g1 g2, y = .pointer (some ⟨g1, 0, none⟩) ∧ z = .pointer (some ⟨g2, 0, none⟩) ∧ g0 < g1 ∧ g0 < g2 ∧ g1 ≠ g2 ∧ At3 23 wx g0 (.int .i64 a00) (.int .i64 a01) (.int .i64 a02) ∧ At3 27 wx g1 (.int .i64 a00) (.int .i64 a01) (.int .i64 a02) ∧ At3 23 wx g2 (.int .i64 a00) (.int .i64 a01) (.int .i64 a02) ∧ Below g0 w wx)
  case first =>
    go_region
    all_goals
      go_wp2_with fail
      go_meet
      first
      | exact ⟨w3.heap.size, w3.heap.size + 1, rfl, rfl, hl0, by omega, by omega, ((hX0_3.alloc _).alloc _).drew, ((at3_new 27 w3 _ (.int .i64 a00) (.int .i64 a01) (.int .i64 a02) rfl).alloc _).drew, (at3_new 23 _ _ (.int .i64 a00) (.int .i64 a01) (.int .i64 a02) (by simp)).drew, ((hb3.alloc (Nat.le_of_lt hl0) _).alloc (by simp; omega) _).drew⟩
      | exact ⟨w3.heap.size + 1, w3.heap.size, rfl, rfl, by omega, hl0, by omega, ((hX0_3.alloc _).alloc _).drew, (at3_new 27 _ _ (.int .i64 a00) (.int .i64 a01) (.int .i64 a02) (by simp)).drew, ((at3_new 23 w3 _ (.int .i64 a00) (.int .i64 a01) (.int .i64 a02) rfl).alloc _).drew, ((hb3.alloc (Nat.le_of_lt hl0) _).alloc (by simp; omega) _).drew⟩
  case rest =>
  obtain ⟨g1, g2, rfl, rfl, n01, n02, n12, hX0_6, hX1_6, hX2_6, hb6⟩ := hcut
  clear hX0_3 hb3 hl0
  rename World => w6
  have hle1 : g0 ≤ g1 := by omega
  have hle2 : g0 ≤ g2 := by omega
  have hne01 : g0 ≠ g1 := by omega
  have hne10 : g1 ≠ g0 := by omega
  have hne02 : g0 ≠ g2 := by omega
  have hne20 : g2 ≠ g0 := by omega
  have hne12 : g1 ≠ g2 := by omega
  have hne21 : g2 ≠ g1 := by omega
  clear n01 n02 n12
  obtain ⟨_, _, _⟩ := hX0_6.cells
  go_wp2_with fail
  go_loopw [9] (fun i wr => ∃ (k : Nat) (q0 q1 q2 : Int), k ≤ es.length ∧ k ≤ 60 ∧ i = .int .i64 k ∧ At3 23 wr g0 (.int .i64 a00) (.int .i64 a01) (.int .i64 a02) ∧ At3 27 wr g1 (.int .i64 q0) (.int .i64 q1) (.int .i64 q2) ∧ At3 23 wr g2 (.int .i64 q0) (.int .i64 q1) (.int .i64 q2) ∧ Below g0 w wr) (fun i _ => 60 - (intOf i).toNat)
  case atStart => exact ⟨0, a00, a01, a02, Nat.zero_le _, by omega, rfl, hX0_6, hX1_6, hX2_6, hb6⟩
  case round =>
    obtain ⟨k, q0, q1, q2, hk, hk60, rfl, hX0_7, hX1_7, hX2_7, hb7⟩ := hrel
    clear hX0_6 hX1_6 hX2_6 hb6
    by_cases hlt : k < es.length ∧ k < 60
    · obtain ⟨hlt, hlt60⟩ := hlt
      obtain ⟨ab, off, rfl, hcell⟩ := (HR.out wr (by rw [HG.out]; exact hb7)).at hlt
      have hcellA : Hid (∀ W : World, Below w.heap.size w W → W.cell? ⟨ab, off + k, none⟩ = some (.int .i64 (es[k]?.getD 0))) := Lib.hid (fun W hW => by
        obtain ⟨ab2, off2, e2, hc2⟩ := (HR.out W hW).at hlt
        cases e2
        exact hc2)
      generalize es[k]?.getD 0 = x at hcell hcellA
      obtain ⟨_, _, _⟩ := hX0_7.frees
      obtain ⟨_, _, _⟩ := hX0_7.cells
      obtain ⟨_, _, _⟩ := hX1_7.frees
      obtain ⟨_, _, _⟩ := hX1_7.cells
      obtain ⟨_, _, _⟩ := hX2_7.frees
      obtain ⟨_, _, _⟩ := hX2_7.cells
      have hlx := hX0_7.lt
      have hcD := hcellA.out wr.drew (by rw [HG.out]; exact hb7.drew)
      have i0 : (0 : Int) ≤ (k : Int) := by omega
      have i1 : (k : Int) < (es.length : Int) := by omega
      obtain ⟨_, _, _⟩ := hX1_7.drew.cells
      obtain ⟨_, _, _⟩ := hX2_7.drew.cells
      have HGO : ∀ (n0 n1 n2 : Int) (W : World), At3 23 W g0 (.int .i64 a00) (.int .i64 a01) (.int .i64 a02) → At3 27 W g1 (.int .i64 q0) (.int .i64 q1) (.int .i64 q2) → At3 23 W g2 (.int .i64 q0) (.int .i64 q1) (.int .i64 q2) → Below g0 w W → At3 23 ((((((W.setCell ⟨g1, 0, none⟩ (.int .i64 n0)).setCell ⟨g1, 1, none⟩ (.int .i64 n1)).setCell ⟨g1, 2, none⟩ (.int .i64 n2)).setCell ⟨g2, 0, none⟩ (.int .i64 n0)).setCell ⟨g2, 1, none⟩ (.int .i64 n1)).setCell ⟨g2, 2, none⟩ (.int .i64 n2)) g0 (.int .i64 a00) (.int .i64 a01) (.int .i64 a02) ∧ At3 27 ((((((W.setCell ⟨g1, 0, none⟩ (.int .i64 n0)).setCell ⟨g1, 1, none⟩ (.int .i64 n1)).setCell ⟨g1, 2, none⟩ (.int .i64 n2)).setCell ⟨g2, 0, none⟩ (.int .i64 n0)).setCell ⟨g2, 1, none⟩ (.int .i64 n1)).setCell ⟨g2, 2, none⟩ (.int .i64 n2)) g1 (.int .i64 n0) (.int .i64 n1) (.int .i64 n2) ∧ At3 23 ((((((W.setCell ⟨g1, 0, none⟩ (.int .i64 n0)).setCell ⟨g1, 1, none⟩ (.int .i64 n1)).setCell ⟨g1, 2, none⟩ (.int .i64 n2)).setCell ⟨g2, 0, none⟩ (.int .i64 n0)).setCell ⟨g2, 1, none⟩ (.int .i64 n1)).setCell ⟨g2, 2, none⟩ (.int .i64 n2)) g2 (.int .i64 n0) (.int .i64 n1) (.int .i64 n2) ∧ Below g0 w ((((((W.setCell ⟨g1, 0, none⟩ (.int .i64 n0)).setCell ⟨g1, 1, none⟩ (.int .i64 n1)).setCell ⟨g1, 2, none⟩ (.int .i64 n2)).setCell ⟨g2, 0, none⟩ (.int .i64 n0)).setCell ⟨g2, 1, none⟩ (.int .i64 n1)).setCell ⟨g2, 2, none⟩ (.int .i64 n2)) := fun n0 n1 n2 W h0 h1 h2 hb => by
          have o1 := store3_only W g1 (.int .i64 n0) (.int .i64 n1) (.int .i64 n2)
          have o2 := store3_only (((W.setCell ⟨g1, 0, none⟩ (.int .i64 n0)).setCell ⟨g1, 1, none⟩ (.int .i64 n1)).setCell ⟨g1, 2, none⟩ (.int .i64 n2)) g2 (.int .i64 n0) (.int .i64 n1) (.int .i64 n2)
          exact ⟨(h0.only hne01 o1).only hne02 o2, (at3_store h1 _ _ _).only hne12 o2, at3_store (h2.only hne21 o1) _ _ _, (hb.trans (o1.below hle1)).trans (o2.below hle2)⟩
      by_cases hl2 : k < len2
      · obtain ⟨bb, boff, rfl, hbc⟩ : ∃ bb boff, p2 = some ⟨bb, boff, none⟩ ∧ ∀ i, i < len2 → wr.cell? ⟨bb, boff + i, none⟩ = some (.bool (B i)) := by
          rcases HBL.out wr (by rw [HG.out]; exact hb7) with h | ⟨bb, boff, e, hc⟩
          · omega
          · exact ⟨bb, boff, e, hc⟩
        have hbk := hbc k hl2
        have hbd : Hid (wr.drew.cell? ⟨bb, boff + k, none⟩ = some (.bool (B k))) := Lib.hid hbk
        clear hbc
        have j1 : (k : Int) < (len2 : Int) := by omega
        have j2 : decide ((k : Int) < (len2 : Int)) = true := decide_eq_true j1
        have HBLC := 0
        clear HBLC
        cases hB : B k
        · rw [hB] at hbk
          obtain ⟨n0, n1, n2, d0, d1, hA, hB⟩ := HJT.out ⟨q0, q1, q2⟩ x
          simp only at hA hB
          have HA1 := Lib.hid hA
          have HB1 := Lib.hid hB
          clear hA hB
          go_upto_region 9 with fail
          have hcW : ∀ W : World, Below g0 w W → W.cell? ⟨ab, off + k, none⟩ = some (.int .i64 x) := fun W hW => hcellA.out W (by rw [HG.out]; exact hW)
          have HS : ∀ W : World, At3 23 W g0 (.int .i64 a00) (.int .i64 a01) (.int .i64 a02) → At3 23 W g2 (.int .i64 q0) (.int .i64 q1) (.int .i64 q2) → Below g0 w W → W.cell? ⟨g2, 0, none⟩ = some (.int .i64 q0) ∧ W.cell? ⟨g2, 1, none⟩ = some (.int .i64 q1) ∧ W.cell? ⟨g2, 2, none⟩ = some (.int .i64 q2) ∧ W.cell? ⟨ab, off + k, none⟩ = some (.int .i64 x) ∧ At3 23 W g0 (.int .i64 a00) (.int .i64 a01) (.int .i64 a02) ∧ At3 23 W g2 (.int .i64 q0) (.int .i64 q1) (.int .i64 q2) ∧ Below g0 w W := fun W h0 h2 hW => ⟨h2.cells.1, h2.cells.2.1, h2.cells.2.2, hcW W hW, h0, h2, hW⟩
          have hS0 := HS wr.drew hX0_7.drew hX2_7.drew hb7.drew
          have hlw := hX1_7.lt
          refine wp_region_noPanic ?_
          refine ordM_begin (fun W : World => W.cell? ⟨g2, 0, none⟩ = some (.int .i64 q0) ∧ W.cell? ⟨g2, 1, none⟩ = some (.int .i64 q1) ∧ W.cell? ⟨g2, 2, none⟩ = some (.int .i64 q2) ∧ W.cell? ⟨ab, off + k, none⟩ = some (.int .i64 x) ∧ At3 23 W g0 (.int .i64 a00) (.int .i64 a01) (.int .i64 a02) ∧ At3 23 W g2 (.int .i64 q0) (.int .i64 q1) (.int .i64 q2) ∧ Below g0 w W) (fun i => i == 13) (by kernel_rfl) hS0 ?_
          refine ordM_take 1 ?v0z1 rfl (by kernel_rfl) (by kernel_rfl) (by kernel_rfl) (by kernel_rfl) (fun _ _ _ h => h) (by rfl) ?hy0z1 (by assumption) ?rest0z1
          case hy0z1 => (intro W hSw; (try dsimp only at hSw); go_simp <;> with_reducible rfl)
          (try simp only [Act.put, List.setIfInBounds_toArray, List.set_cons_zero, List.set_cons_succ])
          refine ordM_take 2 ?v1z1 rfl (by kernel_rfl) (by kernel_rfl) (by kernel_rfl) (by kernel_rfl) (fun _ _ _ h => h) (by rfl) ?hy1z1 (by assumption) ?rest1z1
          case hy1z1 => (intro W hSw; (try dsimp only at hSw); go_simp <;> with_reducible rfl)
          (try simp only [Act.put, List.setIfInBounds_toArray, List.set_cons_zero, List.set_cons_succ])
          refine ordM_take 3 ?v2z1 rfl (by kernel_rfl) (by kernel_rfl) (by kernel_rfl) (by kernel_rfl) (fun _ _ _ h => h) (by rfl) ?hy2z1 (by assumption) ?rest2z1
          case hy2z1 => (intro W hSw; (try dsimp only at hSw); go_simp <;> with_reducible rfl)
          (try simp only [Act.put, List.setIfInBounds_toArray, List.set_cons_zero, List.set_cons_succ])
          refine ordM_take 4 ?v3z1 rfl (by kernel_rfl) (by kernel_rfl) (by kernel_rfl) (by kernel_rfl) (fun _ _ _ h => h) (by rfl) ?hy3z1 (by assumption) ?rest3z1
          case hy3z1 => (intro W hSw; (try dsimp only at hSw); go_simp <;> with_reducible rfl)
          (try simp only [Act.put, List.setIfInBounds_toArray, List.set_cons_zero, List.set_cons_succ])
          refine ordM_take 6 ?v4z1 rfl (by kernel_rfl) (by kernel_rfl) (by kernel_rfl) (by kernel_rfl) (fun _ _ _ h => h) (by rfl) ?hy4z1 (by assumption) ?rest4z1
          case hy4z1 => (intro W hSw; (try dsimp only at hSw); go_simp <;> with_reducible rfl)
          (try simp only [Act.put, List.setIfInBounds_toArray, List.set_cons_zero, List.set_cons_succ])
          refine ordM_take 7 ?v5z1 rfl (by kernel_rfl) (by kernel_rfl) (by kernel_rfl) (by kernel_rfl) (fun _ _ _ h => h) (by rfl) ?hy5z1 (by assumption) ?rest5z1
          case hy5z1 => (intro W hSw; (try dsimp only at hSw); go_simp <;> with_reducible rfl)
          (try simp only [Act.put, List.setIfInBounds_toArray, List.set_cons_zero, List.set_cons_succ])
          refine ordM_take 8 ?v6z1 rfl (by kernel_rfl) (by kernel_rfl) (by kernel_rfl) (by kernel_rfl) (fun _ _ _ h => h) (by rfl) ?hy6z1 (by assumption) ?rest6z1
          case hy6z1 => (intro W hSw; (try dsimp only at hSw); go_simp <;> with_reducible rfl)
          (try simp only [Act.put, List.setIfInBounds_toArray, List.set_cons_zero, List.set_cons_succ])
          refine ordM_take 9 ?v7z1 rfl (by kernel_rfl) (by kernel_rfl) (by kernel_rfl) (by kernel_rfl) (fun _ _ _ h => h) (by rfl) ?hy7z1 (by assumption) ?rest7z1
          case hy7z1 => (intro W hSw; (try dsimp only at hSw); go_simp <;> with_reducible rfl)
          (try simp only [Act.put, List.setIfInBounds_toArray, List.set_cons_zero, List.set_cons_succ])
          refine ordM_take 10 ?v8z1 rfl (by kernel_rfl) (by kernel_rfl) (by kernel_rfl) (by kernel_rfl) (fun _ _ _ h => h) (by rfl) ?hy8z1 (by assumption) ?rest8z1
          case hy8z1 => (intro W hSw; (try dsimp only at hSw); go_simp <;> with_reducible rfl)
          (try simp only [Act.put, List.setIfInBounds_toArray, List.set_cons_zero, List.set_cons_succ])
          refine ordM_ready [0] (by kernel_rfl) (by simp) ?_
          refine AllReadyM.cons rfl (fun K hK => ?_) AllReadyM.nil
          go_simp
          refine hK.out _ _ (fun _ => hS0) ?_
          clear hK K
          (try simp only [Act.put, List.setIfInBounds_toArray, List.set_cons_zero, List.set_cons_succ])
          refine ordM_ready [5] (by kernel_rfl) (by simp) ?_
          refine AllReadyM.cons rfl (fun K hK => ?_) AllReadyM.nil
          go_simp
          go_at_call 10
          refine (HA1.out _).mono ?_
          rintro e w9 ⟨rfl, hk9⟩
          have hX0_9 := hX0_7.drew.later hk9
          have hX1_9 := hX1_7.drew.later hk9
          have hX2_9 := hX2_7.drew.later hk9
          have hb9 : Below g0 w w9 := hb7.drew.trans (hk9.mono (by show g0 ≤ wr.heap.size; omega))
          have hS9 := HS w9 hX0_9 hX2_9 hb9
          (try go_wp2_with fail)
          refine hK.out _ _ (fun _ => hS9) ?_
          clear hK K
          (try simp only [Act.put, List.setIfInBounds_toArray, List.set_cons_zero, List.set_cons_succ])
          obtain ⟨_, _, _⟩ := hX1_9.frees
          obtain ⟨_, _, _⟩ := hX2_9.frees
          obtain ⟨_, _, _⟩ := hX1_9.cells
          obtain ⟨_, _, _⟩ := hX2_9.cells
          refine ordM_ready [11] (by kernel_rfl) (by simp) ?_
          refine AllReadyM.cons rfl (fun K hK => ?_) AllReadyM.nil
          go_simp
          go_at_call 11
          refine (HB1.out _).mono ?_
          rintro e w10 ⟨rfl, hk10⟩
          have hX0_10 := hX0_9.later hk10
          have hX1_10 := hX1_9.later hk10
          have hX2_10 := hX2_9.later hk10
          have hb10 := hb9.trans (hk10.mono (by have := hX0_9.lt; omega))
          have hS10 := HS w10 hX0_10 hX2_10 hb10
          (try go_wp2_with fail)
          refine hK.out _ _ (fun _ => hS10) ?_
          clear hK K
          (try simp only [Act.put, List.setIfInBounds_toArray, List.set_cons_zero, List.set_cons_succ])
          obtain ⟨_, _, _⟩ := hX1_10.frees
          obtain ⟨_, _, _⟩ := hX2_10.frees
          obtain ⟨_, _, _⟩ := hX1_10.cells
          obtain ⟨_, _, _⟩ := hX2_10.cells
          have o11 := store3_only w10 g1 (.int .i64 n0) (.int .i64 n1) (.int .i64 n2)
          have hS11 := HS _ (hX0_10.only hne01 o11) (hX2_10.only hne21 o11) (hb10.trans (o11.below hle1))
          clear hS0 hS9 hS10 HS
          refine ordM_ready [12] (by kernel_rfl) (by simp) ?_
          refine AllReadyM.cons rfl (fun K hK => ?_) AllReadyM.nil
          go_simp
          refine hK.out _ _ (fun _ => hS11) ?_
          clear hK K
          (try simp only [Act.put, List.setIfInBounds_toArray, List.set_cons_zero, List.set_cons_succ])
          clear hS11
          refine ordM_ready [13] (by kernel_rfl) (by simp) ?_
          refine AllReadyM.cons rfl (fun K hK => ?_) AllReadyM.nil
          go_simp
          refine hK.out _ _ (fun h => absurd h (by decide)) ?_
          clear hK K
          (try simp only [Act.put, List.setIfInBounds_toArray, List.set_cons_zero, List.set_cons_succ])
          refine ordM_done (by kernel_rfl) ?_ _
          refine NoPanic.normal ?_
          have hGO := HGO n0 n1 n2 w10 hX0_10 hX1_10 hX2_10 hb10
          clear hX0_9 hX1_9 hX2_9 hb9 hX0_10 hX1_10 hX2_10 hb10 hk9 hk10 o11
          go_upto_region 10 with fail
          generalize (((((w10.setCell ⟨g1, 0, none⟩ (.int .i64 n0)).setCell ⟨g1, 1, none⟩ (.int .i64 n1)).setCell ⟨g1, 2, none⟩ (.int .i64 n2)).setCell ⟨g2, 0, none⟩ (.int .i64 n0)).setCell ⟨g2, 1, none⟩ (.int .i64 n1)).setCell ⟨g2, 2, none⟩ (.int .i64 n2) = w11 at hGO ⊢
          obtain ⟨z0, z1, z2, zb⟩ := hGO
          obtain ⟨_, _, _⟩ := z1.cells
          obtain ⟨_, _, _⟩ := z2.cells
          go_wp2_with fail
          go_roundw
          case rel => exact ⟨k + 1, n0, n1, n2, by omega, by omega, by go_num, z0, z1, z2, zb⟩
          case measure => simp [intOf]; omega
        · rw [hB] at hbk
          obtain ⟨n0, n1, n2, d0, d1, hA, hB⟩ := HLT.out ⟨q0, q1, q2⟩ x
          simp only at hA hB
          have HA1 := Lib.hid hA
          have HB1 := Lib.hid hB
          clear hA hB
          go_upto_region 8 with fail
          have hcW : ∀ W : World, Below g0 w W → W.cell? ⟨ab, off + k, none⟩ = some (.int .i64 x) := fun W hW => hcellA.out W (by rw [HG.out]; exact hW)
          have HS : ∀ W : World, At3 23 W g0 (.int .i64 a00) (.int .i64 a01) (.int .i64 a02) → At3 23 W g2 (.int .i64 q0) (.int .i64 q1) (.int .i64 q2) → Below g0 w W → W.cell? ⟨g2, 0, none⟩ = some (.int .i64 q0) ∧ W.cell? ⟨g2, 1, none⟩ = some (.int .i64 q1) ∧ W.cell? ⟨g2, 2, none⟩ = some (.int .i64 q2) ∧ W.cell? ⟨ab, off + k, none⟩ = some (.int .i64 x) ∧ At3 23 W g0 (.int .i64 a00) (.int .i64 a01) (.int .i64 a02) ∧ At3 23 W g2 (.int .i64 q0) (.int .i64 q1) (.int .i64 q2) ∧ Below g0 w W := fun W h0 h2 hW => ⟨h2.cells.1, h2.cells.2.1, h2.cells.2.2, hcW W hW, h0, h2, hW⟩
          have hS0 := HS wr.drew hX0_7.drew hX2_7.drew hb7.drew
          have hlw := hX1_7.lt
          refine wp_region_noPanic ?_
          refine ordM_begin (fun W : World => W.cell? ⟨g2, 0, none⟩ = some (.int .i64 q0) ∧ W.cell? ⟨g2, 1, none⟩ = some (.int .i64 q1) ∧ W.cell? ⟨g2, 2, none⟩ = some (.int .i64 q2) ∧ W.cell? ⟨ab, off + k, none⟩ = some (.int .i64 x) ∧ At3 23 W g0 (.int .i64 a00) (.int .i64 a01) (.int .i64 a02) ∧ At3 23 W g2 (.int .i64 q0) (.int .i64 q1) (.int .i64 q2) ∧ Below g0 w W) (fun i => i == 13) (by kernel_rfl) hS0 ?_
          refine ordM_take 1 ?v0z2 rfl (by kernel_rfl) (by kernel_rfl) (by kernel_rfl) (by kernel_rfl) (fun _ _ _ h => h) (by rfl) ?hy0z2 (by assumption) ?rest0z2
          case hy0z2 => (intro W hSw; (try dsimp only at hSw); go_simp <;> with_reducible rfl)
          (try simp only [Act.put, List.setIfInBounds_toArray, List.set_cons_zero, List.set_cons_succ])
          refine ordM_take 2 ?v1z2 rfl (by kernel_rfl) (by kernel_rfl) (by kernel_rfl) (by kernel_rfl) (fun _ _ _ h => h) (by rfl) ?hy1z2 (by assumption) ?rest1z2
          case hy1z2 => (intro W hSw; (try dsimp only at hSw); go_simp <;> with_reducible rfl)
          (try simp only [Act.put, List.setIfInBounds_toArray, List.set_cons_zero, List.set_cons_succ])
          refine ordM_take 3 ?v2z2 rfl (by kernel_rfl) (by kernel_rfl) (by kernel_rfl) (by kernel_rfl) (fun _ _ _ h => h) (by rfl) ?hy2z2 (by assumption) ?rest2z2
          case hy2z2 => (intro W hSw; (try dsimp only at hSw); go_simp <;> with_reducible rfl)
          (try simp only [Act.put, List.setIfInBounds_toArray, List.set_cons_zero, List.set_cons_succ])
          refine ordM_take 4 ?v3z2 rfl (by kernel_rfl) (by kernel_rfl) (by kernel_rfl) (by kernel_rfl) (fun _ _ _ h => h) (by rfl) ?hy3z2 (by assumption) ?rest3z2
          case hy3z2 => (intro W hSw; (try dsimp only at hSw); go_simp <;> with_reducible rfl)
          (try simp only [Act.put, List.setIfInBounds_toArray, List.set_cons_zero, List.set_cons_succ])
          refine ordM_take 6 ?v4z2 rfl (by kernel_rfl) (by kernel_rfl) (by kernel_rfl) (by kernel_rfl) (fun _ _ _ h => h) (by rfl) ?hy4z2 (by assumption) ?rest4z2
          case hy4z2 => (intro W hSw; (try dsimp only at hSw); go_simp <;> with_reducible rfl)
          (try simp only [Act.put, List.setIfInBounds_toArray, List.set_cons_zero, List.set_cons_succ])
          refine ordM_take 7 ?v5z2 rfl (by kernel_rfl) (by kernel_rfl) (by kernel_rfl) (by kernel_rfl) (fun _ _ _ h => h) (by rfl) ?hy5z2 (by assumption) ?rest5z2
          case hy5z2 => (intro W hSw; (try dsimp only at hSw); go_simp <;> with_reducible rfl)
          (try simp only [Act.put, List.setIfInBounds_toArray, List.set_cons_zero, List.set_cons_succ])
          refine ordM_take 8 ?v6z2 rfl (by kernel_rfl) (by kernel_rfl) (by kernel_rfl) (by kernel_rfl) (fun _ _ _ h => h) (by rfl) ?hy6z2 (by assumption) ?rest6z2
          case hy6z2 => (intro W hSw; (try dsimp only at hSw); go_simp <;> with_reducible rfl)
          (try simp only [Act.put, List.setIfInBounds_toArray, List.set_cons_zero, List.set_cons_succ])
          refine ordM_take 9 ?v7z2 rfl (by kernel_rfl) (by kernel_rfl) (by kernel_rfl) (by kernel_rfl) (fun _ _ _ h => h) (by rfl) ?hy7z2 (by assumption) ?rest7z2
          case hy7z2 => (intro W hSw; (try dsimp only at hSw); go_simp <;> with_reducible rfl)
          (try simp only [Act.put, List.setIfInBounds_toArray, List.set_cons_zero, List.set_cons_succ])
          refine ordM_take 10 ?v8z2 rfl (by kernel_rfl) (by kernel_rfl) (by kernel_rfl) (by kernel_rfl) (fun _ _ _ h => h) (by rfl) ?hy8z2 (by assumption) ?rest8z2
          case hy8z2 => (intro W hSw; (try dsimp only at hSw); go_simp <;> with_reducible rfl)
          (try simp only [Act.put, List.setIfInBounds_toArray, List.set_cons_zero, List.set_cons_succ])
          refine ordM_ready [0] (by kernel_rfl) (by simp) ?_
          refine AllReadyM.cons rfl (fun K hK => ?_) AllReadyM.nil
          go_simp
          refine hK.out _ _ (fun _ => hS0) ?_
          clear hK K
          (try simp only [Act.put, List.setIfInBounds_toArray, List.set_cons_zero, List.set_cons_succ])
          refine ordM_ready [5] (by kernel_rfl) (by simp) ?_
          refine AllReadyM.cons rfl (fun K hK => ?_) AllReadyM.nil
          go_simp
          go_at_call 8
          refine (HA1.out _).mono ?_
          rintro e w9 ⟨rfl, hk9⟩
          have hX0_9 := hX0_7.drew.later hk9
          have hX1_9 := hX1_7.drew.later hk9
          have hX2_9 := hX2_7.drew.later hk9
          have hb9 : Below g0 w w9 := hb7.drew.trans (hk9.mono (by show g0 ≤ wr.heap.size; omega))
          have hS9 := HS w9 hX0_9 hX2_9 hb9
          (try go_wp2_with fail)
          refine hK.out _ _ (fun _ => hS9) ?_
          clear hK K
          (try simp only [Act.put, List.setIfInBounds_toArray, List.set_cons_zero, List.set_cons_succ])
          obtain ⟨_, _, _⟩ := hX1_9.frees
          obtain ⟨_, _, _⟩ := hX2_9.frees
          obtain ⟨_, _, _⟩ := hX1_9.cells
          obtain ⟨_, _, _⟩ := hX2_9.cells
          refine ordM_ready [11] (by kernel_rfl) (by simp) ?_
          refine AllReadyM.cons rfl (fun K hK => ?_) AllReadyM.nil
          go_simp
          go_at_call 9
          refine (HB1.out _).mono ?_
          rintro e w10 ⟨rfl, hk10⟩
          have hX0_10 := hX0_9.later hk10
          have hX1_10 := hX1_9.later hk10
          have hX2_10 := hX2_9.later hk10
          have hb10 := hb9.trans (hk10.mono (by have := hX0_9.lt; omega))
          have hS10 := HS w10 hX0_10 hX2_10 hb10
          (try go_wp2_with fail)
          refine hK.out _ _ (fun _ => hS10) ?_
          clear hK K
          (try simp only [Act.put, List.setIfInBounds_toArray, List.set_cons_zero, List.set_cons_succ])
          obtain ⟨_, _, _⟩ := hX1_10.frees
          obtain ⟨_, _, _⟩ := hX2_10.frees
          obtain ⟨_, _, _⟩ := hX1_10.cells
          obtain ⟨_, _, _⟩ := hX2_10.cells
          have o11 := store3_only w10 g1 (.int .i64 n0) (.int .i64 n1) (.int .i64 n2)
          have hS11 := HS _ (hX0_10.only hne01 o11) (hX2_10.only hne21 o11) (hb10.trans (o11.below hle1))
          clear hS0 hS9 hS10 HS
          refine ordM_ready [12] (by kernel_rfl) (by simp) ?_
          refine AllReadyM.cons rfl (fun K hK => ?_) AllReadyM.nil
          go_simp
          refine hK.out _ _ (fun _ => hS11) ?_
          clear hK K
          (try simp only [Act.put, List.setIfInBounds_toArray, List.set_cons_zero, List.set_cons_succ])
          clear hS11
          refine ordM_ready [13] (by kernel_rfl) (by simp) ?_
          refine AllReadyM.cons rfl (fun K hK => ?_) AllReadyM.nil
          go_simp
          refine hK.out _ _ (fun h => absurd h (by decide)) ?_
          clear hK K
          (try simp only [Act.put, List.setIfInBounds_toArray, List.set_cons_zero, List.set_cons_succ])
          refine ordM_done (by kernel_rfl) ?_ _
          refine NoPanic.normal ?_
          have hGO := HGO n0 n1 n2 w10 hX0_10 hX1_10 hX2_10 hb10
          clear hX0_9 hX1_9 hX2_9 hb9 hX0_10 hX1_10 hX2_10 hb10 hk9 hk10 o11
          go_upto_region 10 with fail
          generalize (((((w10.setCell ⟨g1, 0, none⟩ (.int .i64 n0)).setCell ⟨g1, 1, none⟩ (.int .i64 n1)).setCell ⟨g1, 2, none⟩ (.int .i64 n2)).setCell ⟨g2, 0, none⟩ (.int .i64 n0)).setCell ⟨g2, 1, none⟩ (.int .i64 n1)).setCell ⟨g2, 2, none⟩ (.int .i64 n2) = w11 at hGO ⊢
          obtain ⟨z0, z1, z2, zb⟩ := hGO
          obtain ⟨_, _, _⟩ := z1.cells
          obtain ⟨_, _, _⟩ := z2.cells
          go_wp2_with fail
          go_roundw
          case rel => exact ⟨k + 1, n0, n1, n2, by omega, by omega, by go_num, z0, z1, z2, zb⟩
          case measure => simp [intOf]; omega
      · have j2 : decide ((k : Int) < (len2 : Int)) = false := by rw [decide_eq_false_iff_not]; omega
        obtain ⟨n0, n1, n2, d0, d1, hA, hB⟩ := HJT.out ⟨q0, q1, q2⟩ x
        simp only at hA hB
        have HA1 := Lib.hid hA
        have HB1 := Lib.hid hB
        clear hA hB
        go_upto_region 9 with fail
        have hcW : ∀ W : World, Below g0 w W → W.cell? ⟨ab, off + k, none⟩ = some (.int .i64 x) := fun W hW => hcellA.out W (by rw [HG.out]; exact hW)
        have HS : ∀ W : World, At3 23 W g0 (.int .i64 a00) (.int .i64 a01) (.int .i64 a02) → At3 23 W g2 (.int .i64 q0) (.int .i64 q1) (.int .i64 q2) → Below g0 w W → W.cell? ⟨g2, 0, none⟩ = some (.int .i64 q0) ∧ W.cell? ⟨g2, 1, none⟩ = some (.int .i64 q1) ∧ W.cell? ⟨g2, 2, none⟩ = some (.int .i64 q2) ∧ W.cell? ⟨ab, off + k, none⟩ = some (.int .i64 x) ∧ At3 23 W g0 (.int .i64 a00) (.int .i64 a01) (.int .i64 a02) ∧ At3 23 W g2 (.int .i64 q0) (.int .i64 q1) (.int .i64 q2) ∧ Below g0 w W := fun W h0 h2 hW => ⟨h2.cells.1, h2.cells.2.1, h2.cells.2.2, hcW W hW, h0, h2, hW⟩
        have hS0 := HS wr.drew hX0_7.drew hX2_7.drew hb7.drew
        have hlw := hX1_7.lt
        refine wp_region_noPanic ?_
        refine ordM_begin (fun W : World => W.cell? ⟨g2, 0, none⟩ = some (.int .i64 q0) ∧ W.cell? ⟨g2, 1, none⟩ = some (.int .i64 q1) ∧ W.cell? ⟨g2, 2, none⟩ = some (.int .i64 q2) ∧ W.cell? ⟨ab, off + k, none⟩ = some (.int .i64 x) ∧ At3 23 W g0 (.int .i64 a00) (.int .i64 a01) (.int .i64 a02) ∧ At3 23 W g2 (.int .i64 q0) (.int .i64 q1) (.int .i64 q2) ∧ Below g0 w W) (fun i => i == 13) (by kernel_rfl) hS0 ?_
        refine ordM_take 1 ?v0z3 rfl (by kernel_rfl) (by kernel_rfl) (by kernel_rfl) (by kernel_rfl) (fun _ _ _ h => h) (by rfl) ?hy0z3 (by assumption) ?rest0z3
        case hy0z3 => (intro W hSw; (try dsimp only at hSw); go_simp <;> with_reducible rfl)
        (try simp only [Act.put, List.setIfInBounds_toArray, List.set_cons_zero, List.set_cons_succ])
        refine ordM_take 2 ?v1z3 rfl (by kernel_rfl) (by kernel_rfl) (by kernel_rfl) (by kernel_rfl) (fun _ _ _ h => h) (by rfl) ?hy1z3 (by assumption) ?rest1z3
        case hy1z3 => (intro W hSw; (try dsimp only at hSw); go_simp <;> with_reducible rfl)
        (try simp only [Act.put, List.setIfInBounds_toArray, List.set_cons_zero, List.set_cons_succ])
        refine ordM_take 3 ?v2z3 rfl (by kernel_rfl) (by kernel_rfl) (by kernel_rfl) (by kernel_rfl) (fun _ _ _ h => h) (by rfl) ?hy2z3 (by assumption) ?rest2z3
        case hy2z3 => (intro W hSw; (try dsimp only at hSw); go_simp <;> with_reducible rfl)
        (try simp only [Act.put, List.setIfInBounds_toArray, List.set_cons_zero, List.set_cons_succ])
        refine ordM_take 4 ?v3z3 rfl (by kernel_rfl) (by kernel_rfl) (by kernel_rfl) (by kernel_rfl) (fun _ _ _ h => h) (by rfl) ?hy3z3 (by assumption) ?rest3z3
        case hy3z3 => (intro W hSw; (try dsimp only at hSw); go_simp <;> with_reducible rfl)
        (try simp only [Act.put, List.setIfInBounds_toArray, List.set_cons_zero, List.set_cons_succ])
        refine ordM_take 6 ?v4z3 rfl (by kernel_rfl) (by kernel_rfl) (by kernel_rfl) (by kernel_rfl) (fun _ _ _ h => h) (by rfl) ?hy4z3 (by assumption) ?rest4z3
        case hy4z3 => (intro W hSw; (try dsimp only at hSw); go_simp <;> with_reducible rfl)
        (try simp only [Act.put, List.setIfInBounds_toArray, List.set_cons_zero, List.set_cons_succ])
        refine ordM_take 7 ?v5z3 rfl (by kernel_rfl) (by kernel_rfl) (by kernel_rfl) (by kernel_rfl) (fun _ _ _ h => h) (by rfl) ?hy5z3 (by assumption) ?rest5z3
        case hy5z3 => (intro W hSw; (try dsimp only at hSw); go_simp <;> with_reducible rfl)
        (try simp only [Act.put, List.setIfInBounds_toArray, List.set_cons_zero, List.set_cons_succ])
        refine ordM_take 8 ?v6z3 rfl (by kernel_rfl) (by kernel_rfl) (by kernel_rfl) (by kernel_rfl) (fun _ _ _ h => h) (by rfl) ?hy6z3 (by assumption) ?rest6z3
        case hy6z3 => (intro W hSw; (try dsimp only at hSw); go_simp <;> with_reducible rfl)
        (try simp only [Act.put, List.setIfInBounds_toArray, List.set_cons_zero, List.set_cons_succ])
        refine ordM_take 9 ?v7z3 rfl (by kernel_rfl) (by kernel_rfl) (by kernel_rfl) (by kernel_rfl) (fun _ _ _ h => h) (by rfl) ?hy7z3 (by assumption) ?rest7z3
        case hy7z3 => (intro W hSw; (try dsimp only at hSw); go_simp <;> with_reducible rfl)
        (try simp only [Act.put, List.setIfInBounds_toArray, List.set_cons_zero, List.set_cons_succ])
        refine ordM_take 10 ?v8z3 rfl (by kernel_rfl) (by kernel_rfl) (by kernel_rfl) (by kernel_rfl) (fun _ _ _ h => h) (by rfl) ?hy8z3 (by assumption) ?rest8z3
        case hy8z3 => (intro W hSw; (try dsimp only at hSw); go_simp <;> with_reducible rfl)
        (try simp only [Act.put, List.setIfInBounds_toArray, List.set_cons_zero, List.set_cons_succ])
        refine ordM_ready [0] (by kernel_rfl) (by simp) ?_
        refine AllReadyM.cons rfl (fun K hK => ?_) AllReadyM.nil
        go_simp
        refine hK.out _ _ (fun _ => hS0) ?_
        clear hK K
        (try simp only [Act.put, List.setIfInBounds_toArray, List.set_cons_zero, List.set_cons_succ])
        refine ordM_ready [5] (by kernel_rfl) (by simp) ?_
        refine AllReadyM.cons rfl (fun K hK => ?_) AllReadyM.nil
        go_simp
        go_at_call 10
        refine (HA1.out _).mono ?_
        rintro e w9 ⟨rfl, hk9⟩
        have hX0_9 := hX0_7.drew.later hk9
        have hX1_9 := hX1_7.drew.later hk9
        have hX2_9 := hX2_7.drew.later hk9
        have hb9 : Below g0 w w9 := hb7.drew.trans (hk9.mono (by show g0 ≤ wr.heap.size; omega))
        have hS9 := HS w9 hX0_9 hX2_9 hb9
        (try go_wp2_with fail)
        refine hK.out _ _ (fun _ => hS9) ?_
        clear hK K
        (try simp only [Act.put, List.setIfInBounds_toArray, List.set_cons_zero, List.set_cons_succ])
        obtain ⟨_, _, _⟩ := hX1_9.frees
        obtain ⟨_, _, _⟩ := hX2_9.frees
        obtain ⟨_, _, _⟩ := hX1_9.cells
        obtain ⟨_, _, _⟩ := hX2_9.cells
        refine ordM_ready [11] (by kernel_rfl) (by simp) ?_
        refine AllReadyM.cons rfl (fun K hK => ?_) AllReadyM.nil
        go_simp
        go_at_call 11
        refine (HB1.out _).mono ?_
        rintro e w10 ⟨rfl, hk10⟩
        have hX0_10 := hX0_9.later hk10
        have hX1_10 := hX1_9.later hk10
        have hX2_10 := hX2_9.later hk10
        have hb10 := hb9.trans (hk10.mono (by have := hX0_9.lt; omega))
        have hS10 := HS w10 hX0_10 hX2_10 hb10
        (try go_wp2_with fail)
        refine hK.out _ _ (fun _ => hS10) ?_
        clear hK K
        (try simp only [Act.put, List.setIfInBounds_toArray, List.set_cons_zero, List.set_cons_succ])
        obtain ⟨_, _, _⟩ := hX1_10.frees
        obtain ⟨_, _, _⟩ := hX2_10.frees
        obtain ⟨_, _, _⟩ := hX1_10.cells
        obtain ⟨_, _, _⟩ := hX2_10.cells
        have o11 := store3_only w10 g1 (.int .i64 n0) (.int .i64 n1) (.int .i64 n2)
        have hS11 := HS _ (hX0_10.only hne01 o11) (hX2_10.only hne21 o11) (hb10.trans (o11.below hle1))
        clear hS0 hS9 hS10 HS
        refine ordM_ready [12] (by kernel_rfl) (by simp) ?_
        refine AllReadyM.cons rfl (fun K hK => ?_) AllReadyM.nil
        go_simp
        refine hK.out _ _ (fun _ => hS11) ?_
        clear hK K
        (try simp only [Act.put, List.setIfInBounds_toArray, List.set_cons_zero, List.set_cons_succ])
        clear hS11
        refine ordM_ready [13] (by kernel_rfl) (by simp) ?_
        refine AllReadyM.cons rfl (fun K hK => ?_) AllReadyM.nil
        go_simp
        refine hK.out _ _ (fun h => absurd h (by decide)) ?_
        clear hK K
        (try simp only [Act.put, List.setIfInBounds_toArray, List.set_cons_zero, List.set_cons_succ])
        refine ordM_done (by kernel_rfl) ?_ _
        refine NoPanic.normal ?_
        have hGO := HGO n0 n1 n2 w10 hX0_10 hX1_10 hX2_10 hb10
        clear hX0_9 hX1_9 hX2_9 hb9 hX0_10 hX1_10 hX2_10 hb10 hk9 hk10 o11
        go_upto_region 10 with fail
        generalize (((((w10.setCell ⟨g1, 0, none⟩ (.int .i64 n0)).setCell ⟨g1, 1, none⟩ (.int .i64 n1)).setCell ⟨g1, 2, none⟩ (.int .i64 n2)).setCell ⟨g2, 0, none⟩ (.int .i64 n0)).setCell ⟨g2, 1, none⟩ (.int .i64 n1)).setCell ⟨g2, 2, none⟩ (.int .i64 n2) = w11 at hGO ⊢
        obtain ⟨z0, z1, z2, zb⟩ := hGO
        obtain ⟨_, _, _⟩ := z1.cells
        obtain ⟨_, _, _⟩ := z2.cells
        go_wp2_with fail
        go_roundw
        case rel => exact ⟨k + 1, n0, n1, n2, by omega, by omega, by go_num, z0, z1, z2, zb⟩
        case measure => simp [intOf]; omega
    · clear hX1_7 hX2_7
      by_cases hk1 : k < es.length
      · have hk2 : k = 60 := by omega
        subst hk2
        go_upto_region 12 with fail
        go_region_held3 (fun W => W.cell? ⟨g0, 0, none⟩ = some (.int .i64 a00) ∧ W.cell? ⟨g0, 1, none⟩ = some (.int .i64 a01) ∧ W.cell? ⟨g0, 2, none⟩ = some (.int .i64 a02) ∧ At3 23 W g0 (.int .i64 a00) (.int .i64 a01) (.int .i64 a02) ∧ Below g0 w W) (first | (go_keep; done) | exact dlS hX0_7.drew hb7.drew | exact dlS' (Nat.le_refl _) (by go_split_ands; assumption) (by go_split_ands; assumption) (by assumption) | (go_split_ands; assumption)) (first | (go_at_call 12; refine (HN.out _).mono ?_; rintro e w13 ⟨rfl, hk13⟩) | (go_at_call_of 13 (Value.agg #[Value.int .i64 a00, Value.int .i64 a01, Value.int .i64 a00]); refine (HF.out _).mono ?_; rintro e w16 ⟨rfl, hk16⟩) | (go_at_call 14; refine (HRN.out _).mono ?_; rintro e w17 ⟨rfl, hk17⟩) | (go_at_call 13; refine (HF2.out _).mono ?_; rintro e w18 ⟨rfl, hk18⟩))
        all_goals
          go_wp2_with fail
          go_ret
          exact ⟨by first | rfl | simp, by rw [HG.out]; go_split_ands; assumption⟩
      · have hk2 : k = es.length := by omega
        subst hk2
        go_upto_region 12 with fail
        go_region_held3 (fun W => W.cell? ⟨g0, 0, none⟩ = some (.int .i64 a00) ∧ W.cell? ⟨g0, 1, none⟩ = some (.int .i64 a01) ∧ W.cell? ⟨g0, 2, none⟩ = some (.int .i64 a02) ∧ At3 23 W g0 (.int .i64 a00) (.int .i64 a01) (.int .i64 a02) ∧ Below g0 w W) (first | (go_keep; done) | exact dlS hX0_7.drew hb7.drew | exact dlS' (Nat.le_refl _) (by go_split_ands; assumption) (by go_split_ands; assumption) (by assumption) | (go_split_ands; assumption)) (first | (go_at_call 12; refine (HN.out _).mono ?_; rintro e w13 ⟨rfl, hk13⟩) | (go_at_call_of 13 (Value.agg #[Value.int .i64 a00, Value.int .i64 a01, Value.int .i64 a00]); refine (HF.out _).mono ?_; rintro e w16 ⟨rfl, hk16⟩) | (go_at_call 14; refine (HRN.out _).mono ?_; rintro e w17 ⟨rfl, hk17⟩) | (go_at_call 13; refine (HF2.out _).mono ?_; rintro e w18 ⟨rfl, hk18⟩))
        all_goals
          go_wp2_with fail
          go_ret
          exact ⟨by first | rfl | simp, by rw [HG.out]; go_split_ands; assumption⟩
end delayPlays
end Go.Proofs.Ytkefpedijjbmfaa
