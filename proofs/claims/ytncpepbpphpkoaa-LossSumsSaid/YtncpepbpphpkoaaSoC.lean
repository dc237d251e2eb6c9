/- source: New, Highest, Expected, Extend, advance, anew; the document's New, Highest, Expected; Told. -/
import Derived.Test.YtncpepbpphpkoaaSoB
import Derived.Deep.RegionHeld3
import Derived.Deep.QuietTactic
import Derived.BigQuiet
import Derived.Deep.DeepCutAuto
import Derived.Deep.CutBlock
import Derived.RegionTactic
import Derived.BigRegion
import Derived.Deep.RegionWith
namespace Go.Proofs.Ytncpepbpphpkoaa
open Go.RowKit
set_option linter.unusedVariables false
theorem u16_sub1 (f : Int) (h0 : 0 ≤ f) (h1 : f < 65536) : IntKind.u16.wrap (f - 1) = (f + 65535) % 65536 := by
  simp [IntKind.wrap, IntKind.bits, IntKind.signed]; omega
theorem u16_add1 (f : Int) : IntKind.u16.wrap (f + 1) = (f + 1) % 65536 := by
  simp [IntKind.wrap, IntKind.bits, IntKind.signed]
theorem u16_sub (a b : Int) : IntKind.u16.wrap (a - b) = (a - b) % 65536 := by
  simp [IntKind.wrap, IntKind.bits, IntKind.signed]
theorem i64_16 (a : Int) (h0 : 0 ≤ a) (h1 : a < 65536) : IntKind.i64.wrap a = a := IntWalk.i64_in _ ⟨by omega, by omega⟩

theorem soNew_any (f : Int) (h0 : 0 ≤ f) (h1 : f < 65536) (w : World) :
    Calls Try.prog 10 #[.int .u16 f] w fun e w' => e = .returned (SR.new f).val ∧ Below w.heap.size w w' := by
  have hb : Below w.heap.size w (w.alloc (.cells #[.int .u16 0, .int .i64 0, .int .i64 0, .int .i64 0, .int .i64 0, .int .i64 0] 26)) := (Below.refl _ _).alloc (Nat.le_refl _) _
  have hX := at6_new 26 w _ (.int .u16 0) (.int .i64 0) (.int .i64 0) (.int .i64 0) (.int .i64 0) (.int .i64 0) rfl
  have hm := u16_sub1 f h0 h1
  have hf := i64_16 f h0 h1
  go_enter Try.func10, Try.ntmps10
  go_upto_region 1 with fail
  generalize (w.alloc (.cells #[.int .u16 0, .int .i64 0, .int .i64 0, .int .i64 0, .int .i64 0, .int .i64 0] 26)) = w1 at hX hb ⊢
  generalize hg : w.heap.size = g at hX hb ⊢
  have HG := Lib.hid hg
  clear hg
  obtain ⟨_, _, _, _, _, _⟩ := hX.frees
  obtain ⟨_, _, _, _, _, _⟩ := hX.cells
  go_wp2_with fail
  have hZ := at6_store hX (.int .u16 ((f + 65535) % 65536)) (.int .i64 0) (.int .i64 f) (.int .i64 65537) (.int .i64 2) (.int .i64 0)
  have hbz := hb.trans ((store6_only w1 g (.int .u16 ((f + 65535) % 65536)) (.int .i64 0) (.int .i64 f) (.int .i64 65537) (.int .i64 2) (.int .i64 0)).below (by omega))
  obtain ⟨d0, d1, d2, d3, d4, d5⟩ := hZ.cells
  refine bodyPost_ret (v := .agg #[.int .u16 ((f + 65535) % 65536), .int .i64 0, .int .i64 f, .int .i64 65537, .int .i64 2, .int .i64 0]) (by simp [results, Try.results10, go_sem, d0, d1, d2, d3, d4, d5]) rfl ⟨rfl, by rw [HG.out]; exact hbz⟩
theorem refNew_any (f : Int) (h0 : 0 ≤ f) (h1 : f < 65536) (w : World) :
    Calls Try.prog 11 #[.int .i64 f] w fun e w' => e = .returned (SR.new f).ref ∧ Below w.heap.size w w' := by
  have hb : Below w.heap.size w (w.alloc (.cells #[.int .i64 0, .int .i64 0, .int .i64 0, .int .i64 0, .int .i64 0, .int .i64 0] 29)) := (Below.refl _ _).alloc (Nat.le_refl _) _
  have hX := at6_new 29 w _ (.int .i64 0) (.int .i64 0) (.int .i64 0) (.int .i64 0) (.int .i64 0) (.int .i64 0) rfl
  go_enter Try.func11, Try.ntmps11
  go_upto_region 1 with fail
  generalize (w.alloc (.cells #[.int .i64 0, .int .i64 0, .int .i64 0, .int .i64 0, .int .i64 0, .int .i64 0] 29)) = w1 at hX hb ⊢
  generalize hg : w.heap.size = g at hX hb ⊢
  have HG := Lib.hid hg
  clear hg
  obtain ⟨_, _, _, _, _, _⟩ := hX.frees
  obtain ⟨_, _, _, _, _, _⟩ := hX.cells
  go_wp2_with fail
  have hZ := at6_store hX (.int .i64 ((f + 65535) % 65536)) (.int .i64 0) (.int .i64 f) (.int .i64 65537) (.int .i64 2) (.int .i64 0)
  have hbz := hb.trans ((store6_only w1 g (.int .i64 ((f + 65535) % 65536)) (.int .i64 0) (.int .i64 f) (.int .i64 65537) (.int .i64 2) (.int .i64 0)).below (by omega))
  obtain ⟨d0, d1, d2, d3, d4, d5⟩ := hZ.cells
  refine bodyPost_ret (v := .agg #[.int .i64 ((f + 65535) % 65536), .int .i64 0, .int .i64 f, .int .i64 65537, .int .i64 2, .int .i64 0]) (by simp [results, Try.results11, go_sem, d0, d1, d2, d3, d4, d5]) rfl ⟨rfl, by rw [HG.out]; exact hbz⟩
theorem soHigh_any (s : SR) (k : Nat) (hs : s.Ok k) (hk : k ≤ 1000000000) (w : World) :
    Calls Try.prog 15 #[s.val] w fun e w' => e = .returned (.int .i64 s.high) ∧ Below w.heap.size w w' := by
  obtain ⟨mx, cy, ba, bd, pr, rc⟩ := s
  obtain ⟨m0, m1, c0, c1, a0, a1, d0, d1, p0, p1, r0, r1⟩ := hs
  simp only [SR.high, SR.val] at *
  have hX := at6_new 26 w _ (.int .u16 mx) (.int .i64 cy) (.int .i64 ba) (.int .i64 bd) (.int .i64 pr) (.int .i64 rc) rfl
  have hb : Below w.heap.size w (w.alloc (.cells #[.int .u16 mx, .int .i64 cy, .int .i64 ba, .int .i64 bd, .int .i64 pr, .int .i64 rc] 26)) := (Below.refl _ _).alloc (Nat.le_refl _) _
  have hm := i64_16 mx m0 m1
  obtain ⟨_, _, _, _, _, _⟩ := hX.cells
  go_enter Try.func15, Try.ntmps15
  go_wp2
  go_ret
  exact ⟨rfl, hb⟩
theorem refHigh_any (s : SR) (k : Nat) (hs : s.Ok k) (hk : k ≤ 1000000000) (w : World) :
    Calls Try.prog 16 #[s.ref] w fun e w' => e = .returned (.int .i64 s.high) ∧ Below w.heap.size w w' := by
  obtain ⟨mx, cy, ba, bd, pr, rc⟩ := s
  obtain ⟨m0, m1, c0, c1, a0, a1, d0, d1, p0, p1, r0, r1⟩ := hs
  simp only [SR.high, SR.ref] at *
  have hX := at6_new 29 w _ (.int .i64 mx) (.int .i64 cy) (.int .i64 ba) (.int .i64 bd) (.int .i64 pr) (.int .i64 rc) rfl
  have hb : Below w.heap.size w (w.alloc (.cells #[.int .i64 mx, .int .i64 cy, .int .i64 ba, .int .i64 bd, .int .i64 pr, .int .i64 rc] 29)) := (Below.refl _ _).alloc (Nat.le_refl _) _
  have hm := i64_16 mx m0 m1
  obtain ⟨_, _, _, _, _, _⟩ := hX.cells
  go_enter Try.func16, Try.ntmps16
  go_wp2
  go_ret
  exact ⟨rfl, hb⟩
theorem refExp_any (s : SR) (k : Nat) (hs : s.Ok k) (hk : k ≤ 1000000000) (w : World) :
    Calls Try.prog 18 #[s.ref] w fun e w' => e = .returned (.int .i64 s.exp) ∧ Below w.heap.size w w' := by
  obtain ⟨mx, cy, ba, bd, pr, rc⟩ := s
  obtain ⟨m0, m1, c0, c1, a0, a1, d0, d1, p0, p1, r0, r1⟩ := hs
  simp only [SR.exp, SR.ref] at *
  have hX := at6_new 29 w _ (.int .i64 mx) (.int .i64 cy) (.int .i64 ba) (.int .i64 bd) (.int .i64 pr) (.int .i64 rc) rfl
  have hb : Below w.heap.size w (w.alloc (.cells #[.int .i64 mx, .int .i64 cy, .int .i64 ba, .int .i64 bd, .int .i64 pr, .int .i64 rc] 29)) := (Below.refl _ _).alloc (Nat.le_refl _) _
  obtain ⟨_, _, _, _, _, _⟩ := hX.cells
  by_cases hp : 0 < pr
  · rw [if_pos hp]
    go_enter Try.func18, Try.ntmps18
    go_wp2
    go_ret
    exact ⟨rfl, hb⟩
  · rw [if_neg hp]
    go_enter Try.func18, Try.ntmps18
    go_wp2
    go_ret
    exact ⟨rfl, hb⟩
theorem soExp_any (s : SR) (k : Nat) (hs : s.Ok k) (hk : k ≤ 1000000000) (w : World) :
    Calls Try.prog 17 #[s.val] w fun e w' => e = .returned (.int .i64 s.exp) ∧ Below w.heap.size w w' := by
  have hH : ∀ W : World, Calls Try.prog 15 #[s.val] W fun e w' => e = .returned (.int .i64 s.high) ∧ Below W.heap.size W w' := fun W => soHigh_any s k hs hk W
  obtain ⟨mx, cy, ba, bd, pr, rc⟩ := s
  obtain ⟨m0, m1, c0, c1, a0, a1, d0, d1, p0, p1, r0, r1⟩ := hs
  simp only [SR.exp, SR.val, SR.high] at *
  have hX := at6_new 26 w _ (.int .u16 mx) (.int .i64 cy) (.int .i64 ba) (.int .i64 bd) (.int .i64 pr) (.int .i64 rc) rfl
  have hb : Below w.heap.size w (w.alloc (.cells #[.int .u16 mx, .int .i64 cy, .int .i64 ba, .int .i64 bd, .int .i64 pr, .int .i64 rc] 26)) := (Below.refl _ _).alloc (Nat.le_refl _) _
  have HH := Lib.hid hH
  clear hH
  by_cases hp : 0 < pr
  · rw [if_pos hp]
    obtain ⟨_, _, _, _, _, _⟩ := hX.cells
    go_enter Try.func17, Try.ntmps17
    go_wp2
    go_ret
    exact ⟨rfl, hb⟩
  · rw [if_neg hp]
    go_enter Try.func17, Try.ntmps17
    go_upto_region 1 with fail
    generalize (w.alloc (.cells #[.int .u16 mx, .int .i64 cy, .int .i64 ba, .int .i64 bd, .int .i64 pr, .int .i64 rc] 26)) = w1 at hX hb ⊢
    generalize hg : w.heap.size = g at hX hb ⊢
    have HG := Lib.hid hg
    clear hg
    obtain ⟨_, _, _, _, _, _⟩ := hX.cells
    have hlt := hX.lt
    go_upto_region 3 with fail
    go_region_held3 (fun W => W.cell? ⟨g, 0, none⟩ = some (.int .u16 mx) ∧ W.cell? ⟨g, 1, none⟩ = some (.int .i64 cy) ∧ W.cell? ⟨g, 2, none⟩ = some (.int .i64 ba) ∧ W.cell? ⟨g, 3, none⟩ = some (.int .i64 bd) ∧ W.cell? ⟨g, 4, none⟩ = some (.int .i64 pr) ∧ W.cell? ⟨g, 5, none⟩ = some (.int .i64 rc) ∧ At6 26 W g (.int .u16 mx) (.int .i64 cy) (.int .i64 ba) (.int .i64 bd) (.int .i64 pr) (.int .i64 rc) ∧ Below g w W) (first | (go_keep; done) | exact so_start hX.drew hb.drew | exact so_step (Nat.le_refl _) (by go_split_ands; assumption) (by go_split_ands; assumption) (by assumption)) (first | (go_at_call 15; refine (HH.out _).mono ?_; rintro e w3 ⟨rfl, hb3⟩))
    all_goals
      go_wp2
      go_ret
      exact ⟨ret_eq (a := IntKind.i64.wrap (IntKind.i64.wrap (cy + mx - ba) + 1)) (by rw [IntWalk.i64_in (cy + mx - ba) ⟨by omega, by omega⟩, IntWalk.i64_in (cy + mx - ba + 1) ⟨by omega, by omega⟩]), by rw [HG.out]; go_split_ands; assumption⟩
theorem soExt_any (s : SR) (k : Nat) (hs : s.Ok k) (hk : k ≤ 1000000000) (n : Int) (w : World) :
    Calls Try.prog 19 #[s.val, .int .u16 n] w fun e w' => e = .returned (.int .i64 (near62 s.high + d16 (near62 s.high % 65536) n)) ∧ Below w.heap.size w w' := by
  have hH : ∀ W : World, Calls Try.prog 15 #[s.val] W fun e w' => e = .returned (.int .i64 s.high) ∧ Below W.heap.size W w' := fun W => soHigh_any s k hs hk W
  generalize s.high = H at hH ⊢
  obtain ⟨mx, cy, ba, bd, pr, rc⟩ := s
  clear hs
  simp only [SR.val] at *
  have hX := at6_new 26 w _ (.int .u16 mx) (.int .i64 cy) (.int .i64 ba) (.int .i64 bd) (.int .i64 pr) (.int .i64 rc) rfl
  have hb : Below w.heap.size w (w.alloc (.cells #[.int .u16 mx, .int .i64 cy, .int .i64 ba, .int .i64 bd, .int .i64 pr, .int .i64 rc] 26)) := (Below.refl _ _).alloc (Nat.le_refl _) _
  have hle : w.heap.size ≤ (w.alloc (.cells #[.int .u16 mx, .int .i64 cy, .int .i64 ba, .int .i64 bd, .int .i64 pr, .int .i64 rc] 26)).heap.size := hb.size
  obtain ⟨_, _, _, _, _, _⟩ := hX.cells
  go_enter Try.func19, Try.ntmps19
  go_wp2_with fail
  refine (hH _).mono ?_
  rintro e w3 ⟨rfl, hb3⟩
  go_wp2_with (go_at_call 31; refine (extend_any _ _ _).mono ?_; rintro e w' ⟨rfl, rfl⟩)
  go_ret
  exact ⟨rfl, hb.trans (hb3.mono hle)⟩
theorem soAnew_any (mx cy ba bd pr rc n : Int) (h0 : 0 ≤ n) (h1 : n < 65536) (w : World) :
    Calls Try.prog 30 #[.agg #[.int .u16 mx, .int .i64 cy, .int .i64 ba, .int .i64 bd, .int .i64 pr, .int .i64 rc], .int .u16 n] w fun e w' => e = .returned (.agg #[.int .u16 n, .int .i64 0, .int .i64 n, .int .i64 65537, .int .i64 pr, .int .i64 0]) ∧ Below w.heap.size w w' := by
  have hn := i64_16 n h0 h1
  have hX : At6 26 ((w.alloc (.cells #[.int .u16 mx, .int .i64 cy, .int .i64 ba, .int .i64 bd, .int .i64 pr, .int .i64 rc] 26)).alloc (.cells #[.int .u16 0, .int .i64 0, .int .i64 0, .int .i64 0, .int .i64 0, .int .i64 0] 26)) w.heap.size (.int .u16 mx) (.int .i64 cy) (.int .i64 ba) (.int .i64 bd) (.int .i64 pr) (.int .i64 rc) := (at6_new 26 w _ (.int .u16 mx) (.int .i64 cy) (.int .i64 ba) (.int .i64 bd) (.int .i64 pr) (.int .i64 rc) rfl).alloc _
  have hY : At6 26 ((w.alloc (.cells #[.int .u16 mx, .int .i64 cy, .int .i64 ba, .int .i64 bd, .int .i64 pr, .int .i64 rc] 26)).alloc (.cells #[.int .u16 0, .int .i64 0, .int .i64 0, .int .i64 0, .int .i64 0, .int .i64 0] 26)) (w.heap.size + 1) (.int .u16 0) (.int .i64 0) (.int .i64 0) (.int .i64 0) (.int .i64 0) (.int .i64 0) := at6_new 26 _ _ (.int .u16 0) (.int .i64 0) (.int .i64 0) (.int .i64 0) (.int .i64 0) (.int .i64 0) (by simp)
  have hb : Below w.heap.size w ((w.alloc (.cells #[.int .u16 mx, .int .i64 cy, .int .i64 ba, .int .i64 bd, .int .i64 pr, .int .i64 rc] 26)).alloc (.cells #[.int .u16 0, .int .i64 0, .int .i64 0, .int .i64 0, .int .i64 0, .int .i64 0] 26)) := ((Below.refl _ _).alloc (Nat.le_refl _) _).alloc (by simp) _
  go_enter Try.func30, Try.ntmps30
  go_upto_region 1 with fail
  generalize ((w.alloc (.cells #[.int .u16 mx, .int .i64 cy, .int .i64 ba, .int .i64 bd, .int .i64 pr, .int .i64 rc] 26)).alloc (.cells #[.int .u16 0, .int .i64 0, .int .i64 0, .int .i64 0, .int .i64 0, .int .i64 0] 26)) = w2 at hX hY hb ⊢
  generalize hg2 : w.heap.size + 1 = g2 at hY ⊢
  generalize hg : w.heap.size = g at hX hb hg2 ⊢
  have hne : g ≠ g2 := by omega
  have hgle : g ≤ g2 := by omega
  have HG := Lib.hid hg
  clear hg hg2
  obtain ⟨_, _, _, _, _, _⟩ := hX.frees
  obtain ⟨_, _, _, _, _, _⟩ := hX.cells
  obtain ⟨_, _, _, _, _, _⟩ := hY.frees
  obtain ⟨_, _, _, _, _, _⟩ := hY.cells
  go_wp2_with fail
  have hZ := at6_store hY (.int .u16 n) (.int .i64 0) (.int .i64 n) (.int .i64 65537) (.int .i64 pr) (.int .i64 0)
  have hbz := hb.trans ((store6_only w2 g2 (.int .u16 n) (.int .i64 0) (.int .i64 n) (.int .i64 65537) (.int .i64 pr) (.int .i64 0)).below (by omega))
  obtain ⟨d0, d1, d2, d3, d4, d5⟩ := hZ.cells
  refine bodyPost_ret (v := .agg #[.int .u16 n, .int .i64 0, .int .i64 n, .int .i64 65537, .int .i64 pr, .int .i64 0]) (by simp [results, Try.results30, go_sem, d0, d1, d2, d3, d4, d5]) rfl ⟨rfl, by rw [HG.out]; exact hbz⟩
theorem told_any (mx cy ba bd pr rc : Int) (h0 : 0 ≤ mx) (h1 : mx < 65536) (w : World) :
    Calls Try.prog 14 #[.agg #[.int .u16 mx, .int .i64 cy, .int .i64 ba, .int .i64 bd, .int .i64 pr, .int .i64 rc]] w fun e w' => e = .returned (.agg #[.int .i64 mx, .int .i64 cy, .int .i64 ba, .int .i64 bd, .int .i64 pr, .int .i64 rc]) ∧ Below w.heap.size w w' := by
  have hn := i64_16 mx h0 h1
  have hX : At6 26 ((w.alloc (.cells #[.int .u16 mx, .int .i64 cy, .int .i64 ba, .int .i64 bd, .int .i64 pr, .int .i64 rc] 26)).alloc (.cells #[.int .i64 0, .int .i64 0, .int .i64 0, .int .i64 0, .int .i64 0, .int .i64 0] 29)) w.heap.size (.int .u16 mx) (.int .i64 cy) (.int .i64 ba) (.int .i64 bd) (.int .i64 pr) (.int .i64 rc) := (at6_new 26 w _ (.int .u16 mx) (.int .i64 cy) (.int .i64 ba) (.int .i64 bd) (.int .i64 pr) (.int .i64 rc) rfl).alloc _
  have hY : At6 29 ((w.alloc (.cells #[.int .u16 mx, .int .i64 cy, .int .i64 ba, .int .i64 bd, .int .i64 pr, .int .i64 rc] 26)).alloc (.cells #[.int .i64 0, .int .i64 0, .int .i64 0, .int .i64 0, .int .i64 0, .int .i64 0] 29)) (w.heap.size + 1) (.int .i64 0) (.int .i64 0) (.int .i64 0) (.int .i64 0) (.int .i64 0) (.int .i64 0) := at6_new 29 _ _ (.int .i64 0) (.int .i64 0) (.int .i64 0) (.int .i64 0) (.int .i64 0) (.int .i64 0) (by simp)
  have hb : Below w.heap.size w ((w.alloc (.cells #[.int .u16 mx, .int .i64 cy, .int .i64 ba, .int .i64 bd, .int .i64 pr, .int .i64 rc] 26)).alloc (.cells #[.int .i64 0, .int .i64 0, .int .i64 0, .int .i64 0, .int .i64 0, .int .i64 0] 29)) := ((Below.refl _ _).alloc (Nat.le_refl _) _).alloc (by simp) _
  go_enter Try.func14, Try.ntmps14
  go_upto_region 1 with fail
  generalize ((w.alloc (.cells #[.int .u16 mx, .int .i64 cy, .int .i64 ba, .int .i64 bd, .int .i64 pr, .int .i64 rc] 26)).alloc (.cells #[.int .i64 0, .int .i64 0, .int .i64 0, .int .i64 0, .int .i64 0, .int .i64 0] 29)) = w2 at hX hY hb ⊢
  generalize hg2 : w.heap.size + 1 = g2 at hY ⊢
  generalize hg : w.heap.size = g at hX hb hg2 ⊢
  have hne : g ≠ g2 := by omega
  have hgle : g ≤ g2 := by omega
  have HG := Lib.hid hg
  clear hg hg2
  obtain ⟨_, _, _, _, _, _⟩ := hX.frees
  obtain ⟨_, _, _, _, _, _⟩ := hX.cells
  obtain ⟨_, _, _, _, _, _⟩ := hY.frees
  obtain ⟨_, _, _, _, _, _⟩ := hY.cells
  go_wp2_with fail
  have hZ := at6_store hY (.int .i64 mx) (.int .i64 cy) (.int .i64 ba) (.int .i64 bd) (.int .i64 pr) (.int .i64 rc)
  have hbz := hb.trans ((store6_only w2 g2 (.int .i64 mx) (.int .i64 cy) (.int .i64 ba) (.int .i64 bd) (.int .i64 pr) (.int .i64 rc)).below (by omega))
  obtain ⟨d0, d1, d2, d3, d4, d5⟩ := hZ.cells
  refine bodyPost_ret (v := .agg #[.int .i64 mx, .int .i64 cy, .int .i64 ba, .int .i64 bd, .int .i64 pr, .int .i64 rc]) (by simp [results, Try.results14, go_sem, d0, d1, d2, d3, d4, d5]) rfl ⟨rfl, by rw [HG.out]; exact hbz⟩
theorem soAdv1_any (mx cy ba bd pr rc n : Int) (h : n < mx) (h0 : 0 ≤ cy) (h1 : cy ≤ 9000000000000000000) (w : World) :
    Calls Try.prog 29 #[.agg #[.int .u16 mx, .int .i64 cy, .int .i64 ba, .int .i64 bd, .int .i64 pr, .int .i64 rc], .int .u16 n] w fun e w' => e = .returned (.agg #[.int .u16 n, .int .i64 (cy + 65536), .int .i64 ba, .int .i64 bd, .int .i64 pr, .int .i64 rc]) ∧ Below w.heap.size w w' := by
  have hX : At6 26 ((w.alloc (.cells #[.int .u16 mx, .int .i64 cy, .int .i64 ba, .int .i64 bd, .int .i64 pr, .int .i64 rc] 26)).alloc (.cells #[.int .u16 0, .int .i64 0, .int .i64 0, .int .i64 0, .int .i64 0, .int .i64 0] 26)) w.heap.size (.int .u16 mx) (.int .i64 cy) (.int .i64 ba) (.int .i64 bd) (.int .i64 pr) (.int .i64 rc) := (at6_new 26 w _ (.int .u16 mx) (.int .i64 cy) (.int .i64 ba) (.int .i64 bd) (.int .i64 pr) (.int .i64 rc) rfl).alloc _
  have hY : At6 26 ((w.alloc (.cells #[.int .u16 mx, .int .i64 cy, .int .i64 ba, .int .i64 bd, .int .i64 pr, .int .i64 rc] 26)).alloc (.cells #[.int .u16 0, .int .i64 0, .int .i64 0, .int .i64 0, .int .i64 0, .int .i64 0] 26)) (w.heap.size + 1) (.int .u16 0) (.int .i64 0) (.int .i64 0) (.int .i64 0) (.int .i64 0) (.int .i64 0) := at6_new 26 _ _ (.int .u16 0) (.int .i64 0) (.int .i64 0) (.int .i64 0) (.int .i64 0) (.int .i64 0) (by simp)
  have hb : Below w.heap.size w ((w.alloc (.cells #[.int .u16 mx, .int .i64 cy, .int .i64 ba, .int .i64 bd, .int .i64 pr, .int .i64 rc] 26)).alloc (.cells #[.int .u16 0, .int .i64 0, .int .i64 0, .int .i64 0, .int .i64 0, .int .i64 0] 26)) := ((Below.refl _ _).alloc (Nat.le_refl _) _).alloc (by simp) _
  go_enter Try.func29, Try.ntmps29
  go_upto_region 1 with fail
  generalize ((w.alloc (.cells #[.int .u16 mx, .int .i64 cy, .int .i64 ba, .int .i64 bd, .int .i64 pr, .int .i64 rc] 26)).alloc (.cells #[.int .u16 0, .int .i64 0, .int .i64 0, .int .i64 0, .int .i64 0, .int .i64 0] 26)) = w2 at hX hY hb ⊢
  generalize hg2 : w.heap.size + 1 = g2 at hY ⊢
  generalize hg : w.heap.size = g at hX hb hg2 ⊢
  have hne : g ≠ g2 := by omega
  have hgle : g ≤ g2 := by omega
  have HG := Lib.hid hg
  clear hg hg2
  obtain ⟨_, _, _, _, _, _⟩ := hX.frees
  obtain ⟨_, _, _, _, _, _⟩ := hX.cells
  obtain ⟨_, _, _, _, _, _⟩ := hY.frees
  obtain ⟨_, _, _, _, _, _⟩ := hY.cells
  go_upto_region 4 with fail
  have hX1 := at6_set0 (at6_set1 hX (.int .i64 (cy + 65536))) (.int .u16 n)
  have ho1 := ((Only.refl g w2).setCell 1 (.int .i64 (cy + 65536))).setCell 0 (.int .u16 n)
  generalize (w2.setCell ⟨g, 1, none⟩ (.int .i64 (cy + 65536))).setCell ⟨g, 0, none⟩ (.int .u16 n) = w3 at hX1 ho1 ⊢
  have hY1 := hY.only (fun e => hne e.symm) ho1
  have hb1 := hb.trans (ho1.below (Nat.le_refl _))
  obtain ⟨_, _, _, _, _, _⟩ := hX1.cells
  obtain ⟨_, _, _, _, _, _⟩ := hY1.frees
  obtain ⟨_, _, _, _, _, _⟩ := hY1.cells
  go_wp2_with fail
  have hZ := at6_store hY1 (.int .u16 n) (.int .i64 (cy + 65536)) (.int .i64 ba) (.int .i64 bd) (.int .i64 pr) (.int .i64 rc)
  have hbz := hb1.trans ((store6_only w3 g2 (.int .u16 n) (.int .i64 (cy + 65536)) (.int .i64 ba) (.int .i64 bd) (.int .i64 pr) (.int .i64 rc)).below (by omega))
  obtain ⟨d0, d1, d2, d3, d4, d5⟩ := hZ.cells
  refine bodyPost_ret (v := .agg #[.int .u16 n, .int .i64 (cy + 65536), .int .i64 ba, .int .i64 bd, .int .i64 pr, .int .i64 rc]) (by simp [results, Try.results29, go_sem, d0, d1, d2, d3, d4, d5]) rfl ⟨rfl, by rw [HG.out]; exact hbz⟩
theorem soAdv0_any (mx cy ba bd pr rc n : Int) (h : mx ≤ n) (h0 : 0 ≤ cy) (h1 : cy ≤ 9000000000000000000) (w : World) :
    Calls Try.prog 29 #[.agg #[.int .u16 mx, .int .i64 cy, .int .i64 ba, .int .i64 bd, .int .i64 pr, .int .i64 rc], .int .u16 n] w fun e w' => e = .returned (.agg #[.int .u16 n, .int .i64 (cy), .int .i64 ba, .int .i64 bd, .int .i64 pr, .int .i64 rc]) ∧ Below w.heap.size w w' := by
  have hX : At6 26 ((w.alloc (.cells #[.int .u16 mx, .int .i64 cy, .int .i64 ba, .int .i64 bd, .int .i64 pr, .int .i64 rc] 26)).alloc (.cells #[.int .u16 0, .int .i64 0, .int .i64 0, .int .i64 0, .int .i64 0, .int .i64 0] 26)) w.heap.size (.int .u16 mx) (.int .i64 cy) (.int .i64 ba) (.int .i64 bd) (.int .i64 pr) (.int .i64 rc) := (at6_new 26 w _ (.int .u16 mx) (.int .i64 cy) (.int .i64 ba) (.int .i64 bd) (.int .i64 pr) (.int .i64 rc) rfl).alloc _
  have hY : At6 26 ((w.alloc (.cells #[.int .u16 mx, .int .i64 cy, .int .i64 ba, .int .i64 bd, .int .i64 pr, .int .i64 rc] 26)).alloc (.cells #[.int .u16 0, .int .i64 0, .int .i64 0, .int .i64 0, .int .i64 0, .int .i64 0] 26)) (w.heap.size + 1) (.int .u16 0) (.int .i64 0) (.int .i64 0) (.int .i64 0) (.int .i64 0) (.int .i64 0) := at6_new 26 _ _ (.int .u16 0) (.int .i64 0) (.int .i64 0) (.int .i64 0) (.int .i64 0) (.int .i64 0) (by simp)
  have hb : Below w.heap.size w ((w.alloc (.cells #[.int .u16 mx, .int .i64 cy, .int .i64 ba, .int .i64 bd, .int .i64 pr, .int .i64 rc] 26)).alloc (.cells #[.int .u16 0, .int .i64 0, .int .i64 0, .int .i64 0, .int .i64 0, .int .i64 0] 26)) := ((Below.refl _ _).alloc (Nat.le_refl _) _).alloc (by simp) _
  go_enter Try.func29, Try.ntmps29
  go_upto_region 1 with fail
  generalize ((w.alloc (.cells #[.int .u16 mx, .int .i64 cy, .int .i64 ba, .int .i64 bd, .int .i64 pr, .int .i64 rc] 26)).alloc (.cells #[.int .u16 0, .int .i64 0, .int .i64 0, .int .i64 0, .int .i64 0, .int .i64 0] 26)) = w2 at hX hY hb ⊢
  generalize hg2 : w.heap.size + 1 = g2 at hY ⊢
  generalize hg : w.heap.size = g at hX hb hg2 ⊢
  have hne : g ≠ g2 := by omega
  have hgle : g ≤ g2 := by omega
  have HG := Lib.hid hg
  clear hg hg2
  obtain ⟨_, _, _, _, _, _⟩ := hX.frees
  obtain ⟨_, _, _, _, _, _⟩ := hX.cells
  obtain ⟨_, _, _, _, _, _⟩ := hY.frees
  obtain ⟨_, _, _, _, _, _⟩ := hY.cells
  go_upto_region 4 with fail
  have hX1 := at6_set0 hX (.int .u16 n)
  have ho1 := (Only.refl g w2).setCell 0 (.int .u16 n)
  generalize w2.setCell ⟨g, 0, none⟩ (.int .u16 n) = w3 at hX1 ho1 ⊢
  have hY1 := hY.only (fun e => hne e.symm) ho1
  have hb1 := hb.trans (ho1.below (Nat.le_refl _))
  obtain ⟨_, _, _, _, _, _⟩ := hX1.cells
  obtain ⟨_, _, _, _, _, _⟩ := hY1.frees
  obtain ⟨_, _, _, _, _, _⟩ := hY1.cells
  go_wp2_with fail
  have hZ := at6_store hY1 (.int .u16 n) (.int .i64 (cy)) (.int .i64 ba) (.int .i64 bd) (.int .i64 pr) (.int .i64 rc)
  have hbz := hb1.trans ((store6_only w3 g2 (.int .u16 n) (.int .i64 (cy)) (.int .i64 ba) (.int .i64 bd) (.int .i64 pr) (.int .i64 rc)).below (by omega))
  obtain ⟨d0, d1, d2, d3, d4, d5⟩ := hZ.cells
  refine bodyPost_ret (v := .agg #[.int .u16 n, .int .i64 (cy), .int .i64 ba, .int .i64 bd, .int .i64 pr, .int .i64 rc]) (by simp [results, Try.results29, go_sem, d0, d1, d2, d3, d4, d5]) rfl ⟨rfl, by rw [HG.out]; exact hbz⟩
end Go.Proofs.Ytncpepbpphpkoaa
