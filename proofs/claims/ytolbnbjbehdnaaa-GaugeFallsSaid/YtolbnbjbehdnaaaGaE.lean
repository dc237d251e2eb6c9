/- gauge: a rate: step, Value, Next. -/
import Derived.Test.YtolbnbjbehdnaaaGaD
namespace Go.Proofs.Ytolbnbjbehdnaaa
open Go.RowKit
set_option linter.unusedVariables false

theorem ga_S {T : TypeId} {w W : World} {g g2 : Nat} {c0 c1 c2 z0 z1 z2 : Value} (hX : At3 T W g c0 c1 c2) (hY : At3 T W g2 z0 z1 z2) (hb : Below g w W) :
    W.cell? ⟨g, 0, none⟩ = some c0 ∧ W.cell? ⟨g, 1, none⟩ = some c1 ∧ W.cell? ⟨g, 2, none⟩ = some c2 ∧ W.frozen? ⟨g, 0, none⟩ = false ∧ W.frozen? ⟨g, 1, none⟩ = false ∧ W.frozen? ⟨g, 2, none⟩ = false ∧ At3 T W g c0 c1 c2 ∧ At3 T W g2 z0 z1 z2 ∧ Below g w W := by
  obtain ⟨a0, a1, a2⟩ := hX.cells
  exact ⟨a0, a1, a2, hX.free 0, hX.free 1, hX.free 2, hX, hY, hb⟩
theorem ga_S3 {T : TypeId} {w W : World} {g g2 : Nat} {c0 c1 c2 z0 z1 z2 : Value} (hne : g ≠ g2) (hX : At3 T W g c0 c1 c2) (hY : At3 T W g2 z0 z1 z2) (hb : Below g w W) :
    At3 T (((W.setCell ⟨g, 0, none⟩ c0).setCell ⟨g, 1, none⟩ c1).setCell ⟨g, 2, none⟩ c2) g c0 c1 c2 ∧ At3 T (((W.setCell ⟨g, 0, none⟩ c0).setCell ⟨g, 1, none⟩ c1).setCell ⟨g, 2, none⟩ c2) g2 z0 z1 z2 ∧ Below g w (((W.setCell ⟨g, 0, none⟩ c0).setCell ⟨g, 1, none⟩ c1).setCell ⟨g, 2, none⟩ c2) :=
  ⟨at3_store hX c0 c1 c2, hY.only (fun e => hne e.symm) (store3_only W g c0 c1 c2), hb.trans ((store3_only W g c0 c1 c2).below (Nat.le_refl _))⟩
theorem ga_S1 {T : TypeId} {w W : World} {g g2 : Nat} {c0 c1 c2 z0 z1 z2 : Value} (hne : g ≠ g2) (hX : At3 T W g c0 c1 c2) (hY : At3 T W g2 z0 z1 z2) (hb : Below g w W) :
    At3 T (W.setCell ⟨g, 2, none⟩ c2) g c0 c1 c2 ∧ At3 T (W.setCell ⟨g, 2, none⟩ c2) g2 z0 z1 z2 ∧ Below g w (W.setCell ⟨g, 2, none⟩ c2) :=
  ⟨at3_set2 hX c2, hY.only (fun e => hne e.symm) ((Only.refl _ _).setCell 2 _), hb.trans (((Only.refl _ _).setCell 2 _).below (Nat.le_refl _))⟩

theorem rdn_succ (s : Int) (k : Nat) : rdn (k + 1) s = rdn k s - rdn k s / 8 := rfl
theorem rStep_any (s q : Int) (h0 : 0 ≤ s) (h1 : s ≤ 17592186044416) (q0 : 0 ≤ q) (q1 : q ≤ 17592186044416) (w : World) :
    Calls Try.prog 18 #[.agg #[.int .i64 s, .int .i64 q, .int .i64 0]] w fun e w' => e = .returned (.agg #[.int .i64 (s - s / 8), .int .i64 (q + 64), .int .i64 0]) ∧ Below w.heap.size w w' := by
  have e0 : 0 ≤ s / 8 := by omega
  have e1 : s / 8 ≤ s := by omega
  have hX : At3 32 ((w.alloc (.cells #[.int .i64 s, .int .i64 q, .int .i64 0] 32)).alloc (.cells #[.int .i64 0, .int .i64 0, .int .i64 0] 32)) w.heap.size (.int .i64 s) (.int .i64 q) (.int .i64 0) := (at3_new 32 w _ (.int .i64 s) (.int .i64 q) (.int .i64 0) rfl).alloc _
  have hY : At3 32 ((w.alloc (.cells #[.int .i64 s, .int .i64 q, .int .i64 0] 32)).alloc (.cells #[.int .i64 0, .int .i64 0, .int .i64 0] 32)) (w.heap.size + 1) (.int .i64 0) (.int .i64 0) (.int .i64 0) := at3_new 32 _ _ (.int .i64 0) (.int .i64 0) (.int .i64 0) (by simp)
  have hb : Below w.heap.size w ((w.alloc (.cells #[.int .i64 s, .int .i64 q, .int .i64 0] 32)).alloc (.cells #[.int .i64 0, .int .i64 0, .int .i64 0] 32)) := ((Below.refl _ _).alloc (Nat.le_refl _) _).alloc (by simp) _
  go_enter Try.func18, Try.ntmps18
  go_upto_region 1 with fail
  generalize ((w.alloc (.cells #[.int .i64 s, .int .i64 q, .int .i64 0] 32)).alloc (.cells #[.int .i64 0, .int .i64 0, .int .i64 0] 32)) = w2 at hX hY hb ⊢
  generalize hg2 : w.heap.size + 1 = g2 at hY ⊢
  generalize hg : w.heap.size = g at hX hb hg2 ⊢
  have hne : g ≠ g2 := by omega
  have hgle : g ≤ g2 := by omega
  have HG := Lib.hid hg
  clear hg hg2
  obtain ⟨_, _, _⟩ := hX.frees
  obtain ⟨_, _, _⟩ := hX.cells
  obtain ⟨_, _, _⟩ := hY.frees
  obtain ⟨_, _, _⟩ := hY.cells
  go_wp2_with fail
  have hZ := at3_store hY (.int .i64 (s - s / 8)) (.int .i64 (q + 64)) (.int .i64 0)
  have hbz := hb.trans ((store3_only w2 g2 (.int .i64 (s - s / 8)) (.int .i64 (q + 64)) (.int .i64 0)).below hgle)
  obtain ⟨d0, d1, d2⟩ := hZ.cells
  refine bodyPost_ret (v := .agg #[.int .i64 (s - s / 8), .int .i64 (q + 64), .int .i64 0]) (by simp [results, Try.results18, go_sem, d0, d1, d2]) rfl ⟨rfl, by rw [HG.out]; exact hbz⟩
theorem rValue_any (s q : Int) (h0 : 0 ≤ s) (h1 : s ≤ 17592186044416) (w : World) : Calls Try.prog 11 #[.agg #[.int .i64 s, .int .i64 q, .int .i64 0]] w fun e w' => e = .returned (.int .i64 (s / 256)) ∧ Below w.heap.size w w' := by
  have hb : Below w.heap.size w (w.alloc (.cells #[.int .i64 s, .int .i64 q, .int .i64 0] 32)) := (Below.refl _ _).alloc (Nat.le_refl _) _
  have hX := at3_new 32 w _ (.int .i64 s) (.int .i64 q) (.int .i64 0) rfl
  have hu := fun W => upTo_any 17592186044416 s W
  rw [upM_in _ s h0 h1] at hu
  obtain ⟨_, _, _⟩ := hX.cells
  go_enter Try.func11, Try.ntmps11
  go_wp2_with fail
  refine (hu _).mono ?_
  rintro e w' ⟨rfl, rfl⟩
  go_wp2
  go_ret
  exact ⟨rfl, hb⟩
set_option maxHeartbeats 1600000 in
theorem rNext0_any (s q now : Int) (h0 : 0 ≤ s) (h1 : s ≤ 17592186044416) (q0 : 0 ≤ q) (q1 : q ≤ now) (n1 : now ≤ 1099511627776) (n : Int) (hnq : (now - q) / 64 = n) (hn : 64 < n) (w : World) :
    Calls Try.prog 10 #[.agg #[.int .i64 s, .int .i64 q, .int .i64 0], .int .i64 now, .int .i64 0] w fun e w' => e = .returned (.agg #[.int .i64 0, .int .i64 (q + n * 64), .int .i64 0]) ∧ Below w.heap.size w w' := by
  have u1 := upM_in 17592186044416 s h0 h1
  have u2 := upM_in 1099511627776 q q0 (by omega)
  have u3 := upM_in 17592186044416 0 (by decide) (by decide)
  have u4 := upM_in 1073741824 0 (by decide) (by decide)
  have u5 := upM_in 1099511627776 now (by omega) n1
  have m0 : max (now - q) 0 = now - q := by omega
  have H1 := Lib.hid (fun n W => upTo_any 17592186044416 n W)
  have H2 := Lib.hid (fun n W => tick_any n W)
  have H3 := Lib.hid (fun n W => upTo_any 1073741824 n W)
  have hX : At3 32 ((w.alloc (.cells #[.int .i64 s, .int .i64 q, .int .i64 0] 32)).alloc (.cells #[.int .i64 0, .int .i64 0, .int .i64 0] 32)) w.heap.size (.int .i64 s) (.int .i64 q) (.int .i64 0) := (at3_new 32 w _ (.int .i64 s) (.int .i64 q) (.int .i64 0) rfl).alloc _
  have hY : At3 32 ((w.alloc (.cells #[.int .i64 s, .int .i64 q, .int .i64 0] 32)).alloc (.cells #[.int .i64 0, .int .i64 0, .int .i64 0] 32)) (w.heap.size + 1) (.int .i64 0) (.int .i64 0) (.int .i64 0) := at3_new 32 _ _ (.int .i64 0) (.int .i64 0) (.int .i64 0) (by simp)
  have hb : Below w.heap.size w ((w.alloc (.cells #[.int .i64 s, .int .i64 q, .int .i64 0] 32)).alloc (.cells #[.int .i64 0, .int .i64 0, .int .i64 0] 32)) := ((Below.refl _ _).alloc (Nat.le_refl _) _).alloc (by simp) _
  go_enter Try.func10, Try.ntmps10
  go_upto_region 1 with fail
  generalize ((w.alloc (.cells #[.int .i64 s, .int .i64 q, .int .i64 0] 32)).alloc (.cells #[.int .i64 0, .int .i64 0, .int .i64 0] 32)) = w2 at hX hY hb ⊢
  generalize hg2 : w.heap.size + 1 = g2 at hY ⊢
  generalize hg : w.heap.size = g at hX hb hg2 ⊢
  have hne : g ≠ g2 := by omega
  have hgle : g ≤ g2 := by omega
  have HG := Lib.hid hg
  clear hg hg2
  obtain ⟨_, _, _⟩ := hX.frees
  obtain ⟨_, _, _⟩ := hX.cells
  obtain ⟨_, _, _⟩ := hY.frees
  obtain ⟨_, _, _⟩ := hY.cells
  go_cut [3] (fun x wx => x = .pointer (some ⟨g, 0, none⟩) ∧ At3 32 wx g (.int .i64 s) (.int .i64 q) (.int .i64 0) ∧ At3 32 wx g2 (.int .i64 0) (.int .i64 0) (.int .i64 0) ∧ Below g w wx)
  case first =>
    go_region_held3 (fun W => W.cell? ⟨g, 0, none⟩ = some (.int .i64 s) ∧ W.cell? ⟨g, 1, none⟩ = some (.int .i64 q) ∧ W.cell? ⟨g, 2, none⟩ = some (.int .i64 0) ∧ W.frozen? ⟨g, 0, none⟩ = false ∧ W.frozen? ⟨g, 1, none⟩ = false ∧ W.frozen? ⟨g, 2, none⟩ = false ∧ At3 32 W g (.int .i64 s) (.int .i64 q) (.int .i64 0) ∧ At3 32 W g2 (.int .i64 0) (.int .i64 0) (.int .i64 0) ∧ Below g w W) (first | exact ga_S hX.drew hY.drew hb.drew | (go_split_ands; assumption) | assumption | (have hq := ga_S3 hne (by go_split_ands; assumption) (by go_split_ands; assumption) (by go_split_ands; assumption); exact ga_S hq.1 hq.2.1 hq.2.2)) (first | (go_at_call 16; refine (H1.out _ _).mono ?_; rintro e w' ⟨rfl, rfl⟩) | (go_at_call 15; refine (H2.out _ _).mono ?_; rintro e w' ⟨rfl, rfl⟩))
    all_goals
      go_wp2_with fail
      go_meet
      go_split_ands
      exact ⟨rfl, by assumption, by assumption, by assumption⟩
  case rest =>
  obtain ⟨rfl, hX2, hY2, hb2⟩ := hcut
  rename World => w3
  clear hX hY hb
  obtain ⟨_, _, _⟩ := hX2.frees
  obtain ⟨_, _, _⟩ := hX2.cells
  go_upto_region 2 with fail
  go_cut [3] (fun x wx => x = .pointer (some ⟨g, 0, none⟩) ∧ At3 32 wx g (.int .i64 s) (.int .i64 q) (.int .i64 0) ∧ At3 32 wx g2 (.int .i64 0) (.int .i64 0) (.int .i64 0) ∧ Below g w wx)
  case first =>
    go_region_held3 (fun W => W.cell? ⟨g, 0, none⟩ = some (.int .i64 s) ∧ W.cell? ⟨g, 1, none⟩ = some (.int .i64 q) ∧ W.cell? ⟨g, 2, none⟩ = some (.int .i64 0) ∧ W.frozen? ⟨g, 0, none⟩ = false ∧ W.frozen? ⟨g, 1, none⟩ = false ∧ W.frozen? ⟨g, 2, none⟩ = false ∧ At3 32 W g (.int .i64 s) (.int .i64 q) (.int .i64 0) ∧ At3 32 W g2 (.int .i64 0) (.int .i64 0) (.int .i64 0) ∧ Below g w W) (first | exact ga_S hX2.drew hY2.drew hb2.drew | (go_split_ands; assumption) | assumption | (have hq := ga_S1 hne (by go_split_ands; assumption) (by go_split_ands; assumption) (by go_split_ands; assumption); exact ga_S hq.1 hq.2.1 hq.2.2)) (first | (go_at_call 16; refine (H3.out _ _).mono ?_; rintro e w' ⟨rfl, rfl⟩))
    all_goals
      go_wp2_with fail
      go_meet
      go_split_ands
      exact ⟨rfl, by assumption, by assumption, by assumption⟩
  case rest =>
  obtain ⟨rfl, hX3, hY3, hb3⟩ := hcut
  rename World => w4
  clear hX2 hY2 hb2
  obtain ⟨_, _, _⟩ := hX3.frees
  obtain ⟨_, _, _⟩ := hX3.cells
  go_upto_region 3 with fail
  go_quiet ((go_at_call 15; exact Calls.quiet_of_same (tick_q _ _)))
  have hb4 := below_drewN hb3 nq
  have hX4 : At3 32 (w4.drewN nq) g (.int .i64 s) (.int .i64 q) (.int .i64 0) := hX3
  have hY4 : At3 32 (w4.drewN nq) g2 (.int .i64 0) (.int .i64 0) (.int .i64 0) := hY3
  clear hX3 hY3 hb3
  generalize w4.drewN nq = w5 at hb4 hX4 hY4 ⊢
  obtain ⟨_, _, _⟩ := hX4.frees
  obtain ⟨_, _, _⟩ := hX4.cells
  obtain ⟨_, _, _⟩ := hY4.frees
  obtain ⟨_, _, _⟩ := hY4.cells

  have n0 : 0 ≤ n := by omega
  have n2 : n ≤ 17179869184 := by omega
  go_wp2_with fail
  have hZ := at3_store hY4 (.int .i64 0) (.int .i64 (q + n * 64)) (.int .i64 0)
  have hbz := hb4.trans ((store3_only w5 g2 (.int .i64 0) (.int .i64 (q + n * 64)) (.int .i64 0)).below hgle)
  obtain ⟨d0, d1, d2⟩ := hZ.cells
  refine bodyPost_ret (v := .agg #[.int .i64 0, .int .i64 (q + n * 64), .int .i64 0]) (by simp [results, Try.results10, go_sem, d0, d1, d2]) rfl ⟨rfl, by rw [HG.out]; exact hbz⟩
set_option maxHeartbeats 1600000 in
theorem rNext1_any (s q now : Int) (h0 : 0 ≤ s) (h1 : s ≤ 17592186044416) (q0 : 0 ≤ q) (q1 : q ≤ now) (n1 : now ≤ 1099511627776) (m : Nat) (hnq : (now - q) / 64 = (m : Int)) (hm : m ≤ 64) (w : World) :
    Calls Try.prog 10 #[.agg #[.int .i64 s, .int .i64 q, .int .i64 0], .int .i64 now, .int .i64 0] w fun e w' => e = .returned (.agg #[.int .i64 (rdn m s), .int .i64 (q + (m : Int) * 64), .int .i64 0]) ∧ Below w.heap.size w w' := by
  have u1 := upM_in 17592186044416 s h0 h1
  have u2 := upM_in 1099511627776 q q0 (by omega)
  have u3 := upM_in 17592186044416 0 (by decide) (by decide)
  have u4 := upM_in 1073741824 0 (by decide) (by decide)
  have u5 := upM_in 1099511627776 now (by omega) n1
  have m0 : max (now - q) 0 = now - q := by omega
  have H1 := Lib.hid (fun n W => upTo_any 17592186044416 n W)
  have H2 := Lib.hid (fun n W => tick_any n W)
  have H3 := Lib.hid (fun n W => upTo_any 1073741824 n W)
  have hX : At3 32 ((w.alloc (.cells #[.int .i64 s, .int .i64 q, .int .i64 0] 32)).alloc (.cells #[.int .i64 0, .int .i64 0, .int .i64 0] 32)) w.heap.size (.int .i64 s) (.int .i64 q) (.int .i64 0) := (at3_new 32 w _ (.int .i64 s) (.int .i64 q) (.int .i64 0) rfl).alloc _
  have hY : At3 32 ((w.alloc (.cells #[.int .i64 s, .int .i64 q, .int .i64 0] 32)).alloc (.cells #[.int .i64 0, .int .i64 0, .int .i64 0] 32)) (w.heap.size + 1) (.int .i64 0) (.int .i64 0) (.int .i64 0) := at3_new 32 _ _ (.int .i64 0) (.int .i64 0) (.int .i64 0) (by simp)
  have hb : Below w.heap.size w ((w.alloc (.cells #[.int .i64 s, .int .i64 q, .int .i64 0] 32)).alloc (.cells #[.int .i64 0, .int .i64 0, .int .i64 0] 32)) := ((Below.refl _ _).alloc (Nat.le_refl _) _).alloc (by simp) _
  go_enter Try.func10, Try.ntmps10
  go_upto_region 1 with fail
  generalize ((w.alloc (.cells #[.int .i64 s, .int .i64 q, .int .i64 0] 32)).alloc (.cells #[.int .i64 0, .int .i64 0, .int .i64 0] 32)) = w2 at hX hY hb ⊢
  generalize hg2 : w.heap.size + 1 = g2 at hY ⊢
  generalize hg : w.heap.size = g at hX hb hg2 ⊢
  have hne : g ≠ g2 := by omega
  have hgle : g ≤ g2 := by omega
  have HG := Lib.hid hg
  clear hg hg2
  obtain ⟨_, _, _⟩ := hX.frees
  obtain ⟨_, _, _⟩ := hX.cells
  obtain ⟨_, _, _⟩ := hY.frees
  obtain ⟨_, _, _⟩ := hY.cells
  go_cut [3] (fun x wx => x = .pointer (some ⟨g, 0, none⟩) ∧ At3 32 wx g (.int .i64 s) (.int .i64 q) (.int .i64 0) ∧ At3 32 wx g2 (.int .i64 0) (.int .i64 0) (.int .i64 0) ∧ Below g w wx)
  case first =>
    go_region_held3 (fun W => W.cell? ⟨g, 0, none⟩ = some (.int .i64 s) ∧ W.cell? ⟨g, 1, none⟩ = some (.int .i64 q) ∧ W.cell? ⟨g, 2, none⟩ = some (.int .i64 0) ∧ W.frozen? ⟨g, 0, none⟩ = false ∧ W.frozen? ⟨g, 1, none⟩ = false ∧ W.frozen? ⟨g, 2, none⟩ = false ∧ At3 32 W g (.int .i64 s) (.int .i64 q) (.int .i64 0) ∧ At3 32 W g2 (.int .i64 0) (.int .i64 0) (.int .i64 0) ∧ Below g w W) (first | exact ga_S hX.drew hY.drew hb.drew | (go_split_ands; assumption) | assumption | (have hq := ga_S3 hne (by go_split_ands; assumption) (by go_split_ands; assumption) (by go_split_ands; assumption); exact ga_S hq.1 hq.2.1 hq.2.2)) (first | (go_at_call 16; refine (H1.out _ _).mono ?_; rintro e w' ⟨rfl, rfl⟩) | (go_at_call 15; refine (H2.out _ _).mono ?_; rintro e w' ⟨rfl, rfl⟩))
    all_goals
      go_wp2_with fail
      go_meet
      go_split_ands
      exact ⟨rfl, by assumption, by assumption, by assumption⟩
  case rest =>
  obtain ⟨rfl, hX2, hY2, hb2⟩ := hcut
  rename World => w3
  clear hX hY hb
  obtain ⟨_, _, _⟩ := hX2.frees
  obtain ⟨_, _, _⟩ := hX2.cells
  go_upto_region 2 with fail
  go_cut [3] (fun x wx => x = .pointer (some ⟨g, 0, none⟩) ∧ At3 32 wx g (.int .i64 s) (.int .i64 q) (.int .i64 0) ∧ At3 32 wx g2 (.int .i64 0) (.int .i64 0) (.int .i64 0) ∧ Below g w wx)
  case first =>
    go_region_held3 (fun W => W.cell? ⟨g, 0, none⟩ = some (.int .i64 s) ∧ W.cell? ⟨g, 1, none⟩ = some (.int .i64 q) ∧ W.cell? ⟨g, 2, none⟩ = some (.int .i64 0) ∧ W.frozen? ⟨g, 0, none⟩ = false ∧ W.frozen? ⟨g, 1, none⟩ = false ∧ W.frozen? ⟨g, 2, none⟩ = false ∧ At3 32 W g (.int .i64 s) (.int .i64 q) (.int .i64 0) ∧ At3 32 W g2 (.int .i64 0) (.int .i64 0) (.int .i64 0) ∧ Below g w W) (first | exact ga_S hX2.drew hY2.drew hb2.drew | (go_split_ands; assumption) | assumption | (have hq := ga_S1 hne (by go_split_ands; assumption) (by go_split_ands; assumption) (by go_split_ands; assumption); exact ga_S hq.1 hq.2.1 hq.2.2)) (first | (go_at_call 16; refine (H3.out _ _).mono ?_; rintro e w' ⟨rfl, rfl⟩))
    all_goals
      go_wp2_with fail
      go_meet
      go_split_ands
      exact ⟨rfl, by assumption, by assumption, by assumption⟩
  case rest =>
  obtain ⟨rfl, hX3, hY3, hb3⟩ := hcut
  rename World => w4
  clear hX2 hY2 hb2
  obtain ⟨_, _, _⟩ := hX3.frees
  obtain ⟨_, _, _⟩ := hX3.cells
  go_upto_region 3 with fail
  go_quiet ((go_at_call 15; exact Calls.quiet_of_same (tick_q _ _)))
  have hb4 := below_drewN hb3 nq
  have hX4 : At3 32 (w4.drewN nq) g (.int .i64 s) (.int .i64 q) (.int .i64 0) := hX3
  have hY4 : At3 32 (w4.drewN nq) g2 (.int .i64 0) (.int .i64 0) (.int .i64 0) := hY3
  clear hX3 hY3 hb3
  generalize w4.drewN nq = w5 at hb4 hX4 hY4 ⊢
  obtain ⟨_, _, _⟩ := hX4.frees
  obtain ⟨_, _, _⟩ := hX4.cells
  obtain ⟨_, _, _⟩ := hY4.frees
  obtain ⟨_, _, _⟩ := hY4.cells

  have HB := Lib.hid (fun k => rdn_bd k s h0)
  have HSt := Lib.hid (rdn_succ s)
  simp only [hnq, u5]
  have HNQ := Lib.hid hnq
  clear u1 u2 u3 u4 u5 m0 H1 H2 H3 hnq
  go_wp2_with fail
  go_loopw [40] (fun kv wr => ∃ k : Nat, k ≤ m ∧ kv = .int .i64 k ∧ At3 32 wr g (.int .i64 (rdn k s)) (.int .i64 (q + k * 64)) (.int .i64 0) ∧ At3 32 wr g2 (.int .i64 0) (.int .i64 0) (.int .i64 0) ∧ Below g w wr)
    (fun kv _ => m - (intOf kv).toNat)
  case atStart => exact ⟨0, by omega, rfl, by simpa [rdn] using hX4, hY4, hb4⟩
  case round =>
    obtain ⟨k, hk, rfl, hXk, hYk, hbk⟩ := hrel
    obtain ⟨r0, r1⟩ := HB.out k
    have hl := hXk.lt
    obtain ⟨_, _, _⟩ := hXk.frees
    obtain ⟨_, _, _⟩ := hXk.cells
    obtain ⟨_, _, _⟩ := hYk.frees
    obtain ⟨_, _, _⟩ := hYk.cells
    by_cases hlt : k < m
    · have hnm := HNQ.out
      have hq2 : ((k + 1 : Nat) : Int) * 64 = (k : Int) * 64 + 64 := by omega
      have HR := Lib.hid (HSt.out k)
      generalize rdn k s = rk at *
      have hc := Lib.hid (fun W => rStep_any rk (q + (k : Int) * 64) (by omega) (by omega) (by omega) (by omega) W)
      clear hnm
      generalize hqk : q + (k : Int) * 64 = qk at *
      have Hqk := Lib.hid hqk
      clear hqk
      go_wp2_with fail
      refine (hc.out _).mono ?_
      rintro e w6 ⟨rfl, hb6⟩
      have hX6 := hXk.later hb6
      have hY6 := hYk.later hb6
      obtain ⟨_, _, _⟩ := hX6.frees
      obtain ⟨_, _, _⟩ := hX6.cells
      have hb66 := hbk.trans (hb6.mono (by omega))
      go_wp2_with fail
      go_roundw
      case rel =>
        refine ⟨k + 1, by omega, by simp, ?_, hY6.only (fun e => hne e.symm) (store3_only _ _ _ _ _), hb66.trans ((store3_only _ _ _ _ _).below (Nat.le_refl _))⟩
        rw [HR.out, hq2, show q + ((k : Int) * 64 + 64) = qk + 64 from by have := Hqk.out; omega]
        exact at3_store hX6 _ _ _
      case measure => simp [intOf]; omega
    · obtain rfl : k = m := by omega

      go_wp2_with fail
      have hZ := at3_store hYk (.int .i64 (rdn k s)) (.int .i64 (q + (k : Int) * 64)) (.int .i64 0)
      have hbz := hbk.trans ((store3_only wr g2 (.int .i64 (rdn k s)) (.int .i64 (q + (k : Int) * 64)) (.int .i64 0)).below hgle)
      obtain ⟨d0, d1, d2⟩ := hZ.cells
      refine bodyPost_ret (v := .agg #[.int .i64 (rdn k s), .int .i64 (q + (k : Int) * 64), .int .i64 0]) (by simp [results, Try.results10, go_sem, d0, d1, d2]) rfl ⟨rfl, by rw [HG.out]; exact hbz⟩
end Go.Proofs.Ytolbnbjbehdnaaa
