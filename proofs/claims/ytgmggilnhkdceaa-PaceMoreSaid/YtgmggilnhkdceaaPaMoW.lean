/- PaceMore: the walk. -/
import Derived.Test.YtgmggilnhkdceaaPaMoO
namespace Go.Proofs.Ytgmggilnhkdceaa
open Go.RowKit
set_option linter.unusedVariables false
namespace paceMore
/-- What is taken: at a tick, at a later one, and less of it. -/
structure Trio (p : PP) (now d n m : Int) (ok late few : Bool) (k k2 : Int) : Prop where
  lo : ok = true → late = true ∧ few = true ∧ k ≤ k2
set_option maxRecDepth 100000 in
set_option maxHeartbeats 3200000 in
theorem walk (a0 a1 a2 a3 b0 b1 n0 less : Int) (w : World) :
    Calls Try.prog 9 #[.agg #[.int .i64 a0, .int .i64 a1, .int .i64 a2, .int .i64 a3, .int .i64 b0, .int .i64 b1, .int .i64 n0, .int .i64 less]] w fun e w' => e = .returned (.bool true) ∧ Below w.heap.size w w' := by
  have HA := Lib.hid (fun W => paAwake_any W)
  have hmask : ∀ z : Int, bits .and .i64 z 65535 = z % 65536 := fun z => i64_mask z 16 (by omega)
  obtain ⟨n, hn⟩ : ∃ z, max (-1099511627776) (min n0 1099511627776) = z := ⟨_, rfl⟩
  have hnlo : -1099511627776 ≤ n := by omega
  have hnhi : n ≤ 1099511627776 := by omega
  obtain ⟨t0, ht0⟩ : ∃ z, max 0 (min a3 549755813888) = z := ⟨_, rfl⟩
  have h0 : 0 ≤ t0 := by omega
  have h1 : t0 ≤ 549755813888 := by omega
  obtain ⟨now, hnow⟩ : ∃ z, t0 + b0 % 65536 = z := ⟨_, rfl⟩
  have hw1 : IntKind.i64.wrap now = now := IntWalk.i64_in _ ⟨by omega, by omega⟩
  obtain ⟨lat, hlat⟩ : ∃ z, now + b1 % 65536 = z := ⟨_, rfl⟩
  have hw2 : IntKind.i64.wrap lat = lat := IntWalk.i64_in _ ⟨by omega, by omega⟩
  obtain ⟨fw, hfw⟩ : ∃ z, n - less % 65536 = z := ⟨_, rfl⟩
  have hw3 : IntKind.i64.wrap fw = fw := IntWalk.i64_in _ ⟨by omega, by omega⟩
  have hl1 : now ≤ lat := by omega
  have hl2 : fw ≤ n := by omega
  have HT0 := Lib.hid (fun W => paTake_any ⟨a0, a1, a2, a3⟩ now n W)
  have HT1 := Lib.hid (fun W => paTake_any ⟨a0, a1, a2, a3⟩ lat n W)
  have HT2 := Lib.hid (fun W => paTake_any ⟨a0, a1, a2, a3⟩ now fw W)
  have hc1 := PP.can_later ⟨a0, a1, a2, a3⟩ now lat n hl1
  have hc2 := PP.can_less ⟨a0, a1, a2, a3⟩ now fw n hl2
  have hc3 := PP.take_less ⟨a0, a1, a2, a3⟩ now fw n hl2
  obtain ⟨ok, hok⟩ : ∃ y, decide (PP.can ⟨a0, a1, a2, a3⟩ now n) = y := ⟨_, rfl⟩
  obtain ⟨late, hlate⟩ : ∃ y, decide (PP.can ⟨a0, a1, a2, a3⟩ lat n) = y := ⟨_, rfl⟩
  obtain ⟨few, hfew⟩ : ∃ y, decide (PP.can ⟨a0, a1, a2, a3⟩ now fw) = y := ⟨_, rfl⟩
  have HQ : Hid (ok = true → late = true ∧ few = true ∧ (PP.take ⟨a0, a1, a2, a3⟩ now n).k ≤ (PP.take ⟨a0, a1, a2, a3⟩ now fw).k) := Lib.hid (fun h => by
    have hc := of_decide_eq_true (hok.trans h)
    exact ⟨hlate ▸ decide_eq_true (hc1 hc), hfew ▸ decide_eq_true (hc2 hc), hc3 hc⟩)
  rw [hok] at HT0
  rw [hlate] at HT1
  rw [hfew] at HT2
  clear hc1 hc2 hc3 hok hlate hfew hl1 hl2
  generalize PP.take ⟨a0, a1, a2, a3⟩ now n = x at HT0 HQ
  generalize PP.take ⟨a0, a1, a2, a3⟩ lat n = y at HT1
  generalize PP.take ⟨a0, a1, a2, a3⟩ now fw = z at HT2 HQ
  simp only [PP.val] at HT0 HT1 HT2
  have hX : AtP8 66 (w.alloc (.cells #[.int .i64 a0, .int .i64 a1, .int .i64 a2, .int .i64 a3, .int .i64 b0, .int .i64 b1, .int .i64 n0, .int .i64 less] 66)) w.heap.size (.int .i64 a0) (.int .i64 a1) (.int .i64 a2) (.int .i64 a3) (.int .i64 b0) (.int .i64 b1) (.int .i64 n0) (.int .i64 less) := atP8_new 66 w _ (.int .i64 a0) (.int .i64 a1) (.int .i64 a2) (.int .i64 a3) (.int .i64 b0) (.int .i64 b1) (.int .i64 n0) (.int .i64 less) rfl
  have hb : Below w.heap.size w (w.alloc (.cells #[.int .i64 a0, .int .i64 a1, .int .i64 a2, .int .i64 a3, .int .i64 b0, .int .i64 b1, .int .i64 n0, .int .i64 less] 66)) := (Below.refl _ _).alloc (Nat.le_refl _) _
  go_enter Try.func9, Try.ntmps9
  go_upto_region 1 with fail
  generalize w.alloc (.cells #[.int .i64 a0, .int .i64 a1, .int .i64 a2, .int .i64 a3, .int .i64 b0, .int .i64 b1, .int .i64 n0, .int .i64 less] 66) = w2 at hX hb ⊢
  generalize hg : w.heap.size = g0 at hX hb ⊢
  have HG := Lib.hid hg
  clear hg
  go_wp2_with fail
  refine (HA.out _).mono ?_
  rintro e w3 ⟨rfl, hk3⟩
  have hX3 := hX.later hk3
  have hb3 := hb.trans (hk3.mono (by have := hX.lt; omega))
  clear hX hb HA hk3
  go_upto_region 3 with fail
  obtain ⟨_, _, _, _, _, _, _, _⟩ := hX3.cells
  have hl0 : g0 ≤ w3.heap.size := Nat.le_of_lt hX3.lt
  obtain ⟨_, _, _, _, _, _, _, _⟩ := (hX3.drew).cells
  have hq0 : ∀ o : Obj, (w3.alloc o).drew.cell? ⟨g0, 0, none⟩ = some (.int .i64 a0) := fun o => (hX3.alloc o).drew.cells.1
  have hr0 : ∀ o o2 : Obj, ((w3.alloc o).alloc o2).drew.cell? ⟨g0, 0, none⟩ = some (.int .i64 a0) := fun o o2 => ((hX3.alloc o).alloc o2).drew.cells.1
  have hq1 : ∀ o : Obj, (w3.alloc o).drew.cell? ⟨g0, 1, none⟩ = some (.int .i64 a1) := fun o => (hX3.alloc o).drew.cells.2.1
  have hr1 : ∀ o o2 : Obj, ((w3.alloc o).alloc o2).drew.cell? ⟨g0, 1, none⟩ = some (.int .i64 a1) := fun o o2 => ((hX3.alloc o).alloc o2).drew.cells.2.1
  have hq2 : ∀ o : Obj, (w3.alloc o).drew.cell? ⟨g0, 2, none⟩ = some (.int .i64 a2) := fun o => (hX3.alloc o).drew.cells.2.2.1
  have hr2 : ∀ o o2 : Obj, ((w3.alloc o).alloc o2).drew.cell? ⟨g0, 2, none⟩ = some (.int .i64 a2) := fun o o2 => ((hX3.alloc o).alloc o2).drew.cells.2.2.1
  have hq3 : ∀ o : Obj, (w3.alloc o).drew.cell? ⟨g0, 3, none⟩ = some (.int .i64 a3) := fun o => (hX3.alloc o).drew.cells.2.2.2.1
  have hr3 : ∀ o o2 : Obj, ((w3.alloc o).alloc o2).drew.cell? ⟨g0, 3, none⟩ = some (.int .i64 a3) := fun o o2 => ((hX3.alloc o).alloc o2).drew.cells.2.2.2.1
  have hq4 : ∀ o : Obj, (w3.alloc o).drew.cell? ⟨g0, 4, none⟩ = some (.int .i64 b0) := fun o => (hX3.alloc o).drew.cells.2.2.2.2.1
  have hr4 : ∀ o o2 : Obj, ((w3.alloc o).alloc o2).drew.cell? ⟨g0, 4, none⟩ = some (.int .i64 b0) := fun o o2 => ((hX3.alloc o).alloc o2).drew.cells.2.2.2.2.1
  have hq5 : ∀ o : Obj, (w3.alloc o).drew.cell? ⟨g0, 5, none⟩ = some (.int .i64 b1) := fun o => (hX3.alloc o).drew.cells.2.2.2.2.2.1
  have hr5 : ∀ o o2 : Obj, ((w3.alloc o).alloc o2).drew.cell? ⟨g0, 5, none⟩ = some (.int .i64 b1) := fun o o2 => ((hX3.alloc o).alloc o2).drew.cells.2.2.2.2.2.1
  have hq6 : ∀ o : Obj, (w3.alloc o).drew.cell? ⟨g0, 6, none⟩ = some (.int .i64 n0) := fun o => (hX3.alloc o).drew.cells.2.2.2.2.2.2.1
  have hr6 : ∀ o o2 : Obj, ((w3.alloc o).alloc o2).drew.cell? ⟨g0, 6, none⟩ = some (.int .i64 n0) := fun o o2 => ((hX3.alloc o).alloc o2).drew.cells.2.2.2.2.2.2.1
  have hq7 : ∀ o : Obj, (w3.alloc o).drew.cell? ⟨g0, 7, none⟩ = some (.int .i64 less) := fun o => (hX3.alloc o).drew.cells.2.2.2.2.2.2.2
  have hr7 : ∀ o o2 : Obj, ((w3.alloc o).alloc o2).drew.cell? ⟨g0, 7, none⟩ = some (.int .i64 less) := fun o o2 => ((hX3.alloc o).alloc o2).drew.cells.2.2.2.2.2.2.2
  go_cut [3, 4, 5, 6] (fun y z u l wx => ∃ g1 g2, y = .pointer (some ⟨g1, 0, none⟩) ∧ z = .pointer (some ⟨g2, 0, none⟩) ∧ u = .int .i64 n ∧ l = .int .i64 less ∧ g0 ≤ g1 ∧ g0 ≤ g2 ∧ At4 47 wx g1 (.int .i64 a0) (.int .i64 a1) (.int .i64 a2) (.int .i64 a3) ∧ AtP2 64 wx g2 (.int .i64 b0) (.int .i64 b1) ∧ Below g0 w wx)
  case first =>
    go_region
    all_goals
      go_wp2_with fail
      go_meet
      first
      | exact ⟨w3.heap.size, w3.heap.size + 1, rfl, rfl, rfl, rfl, hl0, by omega, ((at4_new 47 w3 _ (.int .i64 a0) (.int .i64 a1) (.int .i64 a2) (.int .i64 a3) rfl).alloc _).drew, (atP2_new 64 _ _ (.int .i64 b0) (.int .i64 b1) (by simp)).drew, ((hb3.alloc hl0 _).alloc (by simp; omega) _).drew⟩
      | exact ⟨w3.heap.size + 1, w3.heap.size, rfl, rfl, rfl, rfl, by omega, hl0, (at4_new 47 _ _ (.int .i64 a0) (.int .i64 a1) (.int .i64 a2) (.int .i64 a3) (by simp)).drew, ((atP2_new 64 w3 _ (.int .i64 b0) (.int .i64 b1) rfl).alloc _).drew, ((hb3.alloc hl0 _).alloc (by simp; omega) _).drew⟩
  case rest =>
  obtain ⟨g1, g2, rfl, rfl, rfl, rfl, n01, n02, hX4, hY4, hb4⟩ := hcut
  rename World => w4
  clear hX3 hb3 hl0 hn hq0 hr0 hq1 hr1 hq2 hr2 hq3 hr3 hq4 hr4 hq5 hr5 hq6 hr6 hq7 hr7
  obtain ⟨_, _, _, _⟩ := hX4.cells
  obtain ⟨_, _⟩ := hY4.cells
  go_upto_region 5 with fail
  clear ht0
  go_wp2_with fail
  refine (HT0.out _).mono ?_
  rintro e w5 ⟨rfl, hk5⟩
  have hle5 : g0 ≤ w5.heap.size := by have := hX4.lt; have := hk5.size; omega
  have hX6 := (hX4.later hk5).alloc (.cells #[.int .i64 x.r, .int .i64 x.b, .int .i64 x.k, .int .i64 x.l] 49)
  have hY6 := (hY4.later hk5).alloc (.cells #[.int .i64 x.r, .int .i64 x.b, .int .i64 x.k, .int .i64 x.l] 49)
  have hb6 := (hb4.trans (hk5.mono (by have := hX4.lt; omega))).alloc hle5 (.cells #[.int .i64 x.r, .int .i64 x.b, .int .i64 x.k, .int .i64 x.l] 49)
  have hN6 := at4_new 49 w5 w5.heap.size (.int .i64 x.r) (.int .i64 x.b) (.int .i64 x.k) (.int .i64 x.l) rfl
  go_upto_region 6 with fail
  generalize w5.alloc (.cells #[.int .i64 x.r, .int .i64 x.b, .int .i64 x.k, .int .i64 x.l] 49) = w6 at hX6 hY6 hb6 hN6 ⊢
  generalize w5.heap.size = h5 at hN6 hle5 ⊢
  clear hk5
  obtain ⟨_, _, _, _⟩ := hX6.cells
  obtain ⟨_, _⟩ := hY6.cells
  go_wp2_with fail
  refine (HT1.out _).mono ?_
  rintro e w7 ⟨rfl, hk7⟩
  have hA6 := hN6
  have hle7 : g0 ≤ w7.heap.size := by have := hX6.lt; have := hk7.size; omega
  have hX8 := (hX6.later hk7).alloc (.cells #[.int .i64 y.r, .int .i64 y.b, .int .i64 y.k, .int .i64 y.l] 49)
  have hA8 := (hA6.later hk7).alloc (.cells #[.int .i64 y.r, .int .i64 y.b, .int .i64 y.k, .int .i64 y.l] 49)
  have hb8 := (hb6.trans (hk7.mono (by have := hX6.lt; omega))).alloc hle7 (.cells #[.int .i64 y.r, .int .i64 y.b, .int .i64 y.k, .int .i64 y.l] 49)
  have hN8 := at4_new 49 w7 w7.heap.size (.int .i64 y.r) (.int .i64 y.b) (.int .i64 y.k) (.int .i64 y.l) rfl
  go_upto_region 7 with fail
  generalize w7.alloc (.cells #[.int .i64 y.r, .int .i64 y.b, .int .i64 y.k, .int .i64 y.l] 49) = w8 at hX8 hA8 hb8 hN8 ⊢
  generalize w7.heap.size = h7 at hN8 hle7 ⊢
  clear hk7
  obtain ⟨_, _, _, _⟩ := hX8.cells
  go_wp2_with fail
  refine (HT2.out _).mono ?_
  rintro e w9 ⟨rfl, hk9⟩
  have hle9 : g0 ≤ w9.heap.size := by have := hX8.lt; have := hk9.size; omega
  have hX10 := (hX8.later hk9).alloc (.cells #[.int .i64 z.r, .int .i64 z.b, .int .i64 z.k, .int .i64 z.l] 49)
  have hA10 := (hA8.later hk9).alloc (.cells #[.int .i64 z.r, .int .i64 z.b, .int .i64 z.k, .int .i64 z.l] 49)
  have hb10 := (hb8.trans (hk9.mono (by have := hX8.lt; omega))).alloc hle9 (.cells #[.int .i64 z.r, .int .i64 z.b, .int .i64 z.k, .int .i64 z.l] 49)
  have hN10 := at4_new 49 w9 w9.heap.size (.int .i64 z.r) (.int .i64 z.b) (.int .i64 z.k) (.int .i64 z.l) rfl
  go_upto_region 8 with fail
  generalize w9.alloc (.cells #[.int .i64 z.r, .int .i64 z.b, .int .i64 z.k, .int .i64 z.l] 49) = w10 at hX10 hA10 hb10 hN10 ⊢
  generalize w9.heap.size = h9 at hN10 hle9 ⊢
  clear hk9
  obtain ⟨_, _, _, _⟩ := hX10.cells
  obtain ⟨_, _, _, _⟩ := hA10.cells
  obtain ⟨_, _, _, _⟩ := hN10.cells
  clear HT0 HT1 HT2 hN6 hN8
  cases ok with
  | false =>
    clear HQ
    go_wp2_with fail
    go_ret
    exact ⟨by simp, by rw [HG.out]; exact hb10⟩
  | true =>
    obtain ⟨rfl, rfl, hk⟩ := HQ.out rfl
    go_wp2_with fail
    go_ret
    exact ⟨by simp, by rw [HG.out]; exact hb10⟩
end paceMore
end Go.Proofs.Ytgmggilnhkdceaa
