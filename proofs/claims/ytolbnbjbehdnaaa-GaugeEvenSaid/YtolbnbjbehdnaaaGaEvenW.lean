/- GaugeEven: the walk. -/
import Derived.Test.YtolbnbjbehdnaaaGaW
namespace Go.Proofs.Ytolbnbjbehdnaaa
open Go.RowKit
set_option linter.unusedVariables false
namespace gaugeEven
theorem s_bd (s m : Int) (h : s ≤ 16 * m + 7) : decide (m < s / 16) = false := by rw [decide_eq_false_iff_not]; omega
theorem jst_down (s : Int) (h : 0 ≤ s) : decide (s < jst s 0) = false := by rw [decide_eq_false_iff_not]; unfold jst; omega
theorem jst_dn (s : Int) (h : 0 ≤ s) : jst s 0 ≤ s := by unfold jst; omega
theorem s_end (s : Int) (h : s ≤ jsq 400) : s ≤ 15 := by
  have := jsq_end
  generalize jsq 400 = q at h this
  omega
theorem first_ex (s t nw took : Int) (h : Bool) (s0 : 0 ≤ s) (s1 : s ≤ 65527) (_t : True) (n0 : 0 ≤ nw) (n1 : nw ≤ 280) (t0 : 0 ≤ took) (t1 : took ≤ 65535) (hh : h = false ∨ (h = true ∧ 0 ≤ t ∧ t ≤ 4095)) :
    ∃ s' : Int, 0 ≤ s' ∧ s' ≤ 131072 ∧ ∀ W : World, Calls Try.prog 7 #[.agg #[.int .i64 s, .int .i64 t, .bool h], .int .i64 nw, .int .i64 (nw + took)] W fun e w' => e = .returned (.agg #[.int .i64 s', .int .i64 took, .bool true]) ∧ Below W.heap.size W w' := by
  have ed : nw + took - nw = took := by omega
  rcases hh with rfl | ⟨rfl, h2, h3⟩
  · refine ⟨s, s0, by omega, fun W => ?_⟩
    have := jNext0_any s t nw (nw + took) s0 (by omega) (by omega) (by omega) (by omega) (by omega) W
    rw [ed] at this
    exact this
  · have x0 : 0 ≤ max (took - t) (-(took - t)) := by omega
    have x1 : max (took - t) (-(took - t)) ≤ 65535 := by omega
    have j0 := jst_nn s _ s0 x0
    have j2 := jst_up s (max (took - t) (-(took - t))) s0
    refine ⟨jst s (max (took - t) (-(took - t))), j0, by omega, fun W => ?_⟩
    have := jNext1_any s t nw (nw + took) s0 (by omega) (by omega) (by omega) (by omega) (by omega) (by omega) (by omega) W
    rw [ed] at this
    exact this
set_option maxRecDepth 100000 in
set_option maxHeartbeats 3200000 in
theorem walk (p0 : Option Addr) (len0 cap0 : Nat) (z0 : List Int) (a1 : Int) (w1 : (Lit.int .i64 a1).wf = true) (w : World) (hrow : IsRow .i64 w p0 len0 cap0 z0) :
    Calls Try.prog 3 #[.slice p0 len0 cap0, .int .i64 a1] w fun e w' => e = .returned (.bool true) ∧ Below w.heap.size w w' := by
  obtain ⟨es, rfl, l1, l2, hr0, hwf⟩ := hrow.reads
  clear w1 hrow hwf
  have HR := Lib.hid (fun (W : World) (h : Below w.heap.size w W) => hr0.later h)
  clear hr0
  have hm1 : bits .and .i64 a1 65535 = a1 % 65536 := i64_mask a1 16 (by omega)
  have t0 : 0 ≤ a1 % 65536 := by omega
  have t1 : a1 % 65536 ≤ 65535 := by omega
  generalize a1 % 65536 = took at hm1 t0 t1
  go_enter Try.func3, Try.ntmps3
  go_wp2_with fail
  refine (gaAwake_any _).mono ?_
  rintro e wa ⟨rfl, hba⟩
  have hle := hba.size
  have hX := at3_new 25 wa _ (.int .i64 0) (.int .i64 0) (.bool false) rfl
  have hb := hba.alloc hle (.cells #[.int .i64 0, .int .i64 0, .bool false] 25)
  go_upto_region 5 with fail
  generalize wa.alloc (.cells #[.int .i64 0, .int .i64 0, .bool false] 25) = w3 at hX hb ⊢
  generalize wa.heap.size = g at hX hle ⊢
  clear hba hm1
  go_wp2_with fail
  have hm : ∀ z : Int, bits .and .i64 z 4095 = z % 4096 := fun z => i64_mask z 12 (by omega)
  have HM := Lib.hid hm
  clear hm
  go_loopw [6, 7, 8, 9] (fun zl zm zn zi wr => ∃ (k : Nat) (last most nw s t : Int) (h : Bool), k ≤ es.length ∧ k ≤ 40 ∧ zi = .int .i64 k ∧ zn = .int .i64 nw ∧ zm = .int .i64 most ∧ zl = .int .i64 last ∧ 0 ≤ most ∧ most ≤ 4095 ∧ nw = 7 * k ∧ 0 ≤ s ∧ s ≤ 16 * most + 7 ∧ -1 ≤ last ∧ last ≤ 4095 ∧ ((h = false ∧ last = -1 ∧ s = 0) ∨ (h = true ∧ t = last ∧ 0 ≤ last)) ∧ At3 25 wr g (.int .i64 s) (.int .i64 t) (.bool h) ∧ Below w.heap.size w wr)
    (fun _ _ _ zi _ => 40 - (intOf zi).toNat)
  case atStart => exact ⟨0, -1, 0, 0, 0, 0, false, by omega, by omega, rfl, rfl, rfl, rfl, by omega, by omega, rfl, by omega, by omega, by omega, by omega, .inl ⟨rfl, rfl, rfl⟩, hX, hb⟩
  case round =>
    clear hX hb
    obtain ⟨k, last, most, nw, s, t, h, hk, hk40, rfl, rfl, rfl, rfl, m0, m1, hnw, s0, s1, l0, l1', hh, hXk, hbk⟩ := hrel
    obtain ⟨_, _, _⟩ := hXk.frees
    obtain ⟨_, _, _⟩ := hXk.cells
    have hl := hXk.lt
    have nw0 : 0 ≤ nw := by omega
    have nw1 : nw ≤ 280 := by omega
    have HNW := Lib.hid hnw
    clear hnw
    by_cases hgo : k < es.length ∧ k < 40
    · obtain ⟨hlt, hl40⟩ := hgo
      obtain ⟨cb, co, rfl, hcell⟩ := (HR.out wr hbk).at hlt
      have hme := HM.out (es[k]?.getD 0)
      generalize es[k]?.getD 0 = z at hcell hme
      have z0 : 0 ≤ z % 4096 := by omega
      have z1 : z % 4096 ≤ 4095 := by omega
      generalize z % 4096 = d at hme z0 z1
      have hkc : (k : Int) < (es.length : Int) := by omega
      rcases hh with ⟨rfl, rfl, rfl⟩ | ⟨rfl, rfl, hl0⟩
      · have HN := Lib.hid (fun W => jNext0_any 0 t (nw + 7) (nw + 7 + d) (by decide) (by decide) (by omega) (by omega) (by omega) (by omega) W)
        have ed : nw + 7 + d - (nw + 7) = d := by omega
        rw [ed] at HN
        have HV := Lib.hid (fun W => jValue_any 0 d true (by decide) (by decide) W)
        have hmd : decide (most < 0 / 16) = false := s_bd 0 most (by omega)
        have hmd2 : decide (most < 0) = false := by rw [decide_eq_false_iff_not]; omega
        clear ed
        go_wp2_with fail
        refine (HN.out _).mono ?_
        rintro e w6 ⟨rfl, hb6⟩
        have hX6 := hXk.later hb6
        obtain ⟨_, _, _⟩ := hX6.frees
        obtain ⟨_, _, _⟩ := hX6.cells
        have hX7 := at3_store hX6 (.int .i64 0) (.int .i64 d) (.bool true)
        have hb7 := (hbk.trans (hb6.mono (by omega))).trans ((store3_only w6 g (.int .i64 0) (.int .i64 d) (.bool true)).below hle)
        go_upto_region 13 with fail
        generalize ((w6.setCell ⟨g, 0, none⟩ (.int .i64 0)).setCell ⟨g, 1, none⟩ (.int .i64 d)).setCell ⟨g, 2, none⟩ (.bool true) = w7 at hX7 hb7 ⊢
        clear hb6 HN hXk hbk hX6 hl
        obtain ⟨_, _, _⟩ := hX7.cells
        have hl := hX7.lt
        go_wp2_with fail
        refine (HV.out _).mono ?_
        rintro e w8 ⟨rfl, hb8⟩
        have hX8 := hX7.later hb8
        have hb9 := hb7.trans (hb8.mono (by omega))
        go_wp2_with fail
        go_roundw
        case rel => exact ⟨k + 1, d, most, nw + 7, 0, d, true, by omega, by omega, by go_num, rfl, rfl, rfl, m0, m1, by have := HNW.out; omega, by omega, by omega, by omega, z1, .inr ⟨rfl, rfl, z0⟩, hX8, hb9⟩
        case measure => simp [intOf]; omega
      · have HN := Lib.hid (fun W => jNext1_any s t (nw + 7) (nw + 7 + d) s0 (by omega) (by omega) (by omega) (by omega) (by omega) (by omega) (by omega) W)
        have ed : nw + 7 + d - (nw + 7) = d := by omega
        have ed2 : -(d - t) = t - d := by omega
        rw [ed, ed2] at HN
        have x0 : 0 ≤ max (d - t) (t - d) := by omega
        have x1 : max (d - t) (t - d) ≤ 4095 := by omega
        have j0 := jst_nn s (max (d - t) (t - d)) s0 x0
        have j1 := jst_le s (max (d - t) (t - d)) (max most (max (d - t) (t - d))) s0 (by omega) (by omega)
        have j2 := jst_up s (max (d - t) (t - d)) s0
        have M0 : 0 ≤ max most (max (d - t) (t - d)) := by omega
        have M1 : max most (max (d - t) (t - d)) ≤ 4095 := by omega
        generalize hM : max most (max (d - t) (t - d)) = mo2 at j1 M0 M1
        generalize jst s (max (d - t) (t - d)) = s2 at HN j0 j1 j2
        have hmd := s_bd s2 mo2 j1
        have HV := Lib.hid (fun W => jValue_any s2 d true j0 (by omega) W)
        clear ed ed2 x0 x1
        generalize s2 / 16 = vv at HV hmd
        go_wp2_with fail
        refine (HN.out _).mono ?_
        rintro e w6 ⟨rfl, hb6⟩
        have hX6 := hXk.later hb6
        obtain ⟨_, _, _⟩ := hX6.frees
        obtain ⟨_, _, _⟩ := hX6.cells
        have hX7 := at3_store hX6 (.int .i64 s2) (.int .i64 d) (.bool true)
        have hb7 := (hbk.trans (hb6.mono (by omega))).trans ((store3_only w6 g (.int .i64 s2) (.int .i64 d) (.bool true)).below hle)
        go_upto_region 13 with fail
        generalize ((w6.setCell ⟨g, 0, none⟩ (.int .i64 s2)).setCell ⟨g, 1, none⟩ (.int .i64 d)).setCell ⟨g, 2, none⟩ (.bool true) = w7 at hX7 hb7 ⊢
        clear hb6 HN hXk hbk hX6 hl
        obtain ⟨_, _, _⟩ := hX7.cells
        have hl := hX7.lt
        go_wp2_with fail
        refine (HV.out _).mono ?_
        rintro e w8 ⟨rfl, hb8⟩
        have hX8 := hX7.later hb8
        have hb9 := hb7.trans (hb8.mono (by omega))
        go_wp2_with fail
        go_roundw
        case rel => exact ⟨k + 1, d, mo2, nw + 7, s2, d, true, by omega, by omega, by go_num, rfl, rfl, rfl, M0, M1, by have := HNW.out; omega, j0, j1, by omega, z1, .inr ⟨rfl, rfl, z0⟩, hX8, hb9⟩
        case measure => simp [intOf]; omega
    · by_cases hlt : k < es.length
      · have hkc : (k : Int) < (es.length : Int) := by omega
        obtain rfl : k = 40 := by omega
        obtain ⟨s', s0', s1', hN⟩ := first_ex s t nw took h s0 (by omega) trivial nw0 (by omega) t0 t1 (by rcases hh with ⟨rfl, _, _⟩ | ⟨rfl, rfl, h3⟩; exact .inl rfl; exact .inr ⟨rfl, by omega, by omega⟩)
        have HN := Lib.hid hN
        clear hN
        have HN2 := Lib.hid (fun W => jNext1_any s' took nw (nw + took) s0' (by omega) (by omega) (by omega) nw0 (by omega) (by omega) (by omega) W)
        have ed : nw + took - nw = took := by omega
        have ed2 : took - took = 0 := by omega
        rw [ed, ed2, show max (0 : Int) (-0) = 0 from by decide] at HN2
        have q0 := jst_nn s' 0 s0' (by omega)
        have q1 := jst_dn s' s0'
        clear ed ed2 hh
        generalize jst s' 0 = s2 at HN2 q0 q1
        go_wp2_with fail
        refine (HN.out _).mono ?_
        rintro e w4 ⟨rfl, hb4⟩
        have hX4 := hXk.later hb4
        go_wp2_with fail
        refine (HN2.out _).mono ?_
        rintro e w6 ⟨rfl, hb6⟩
        have hX6 := hX4.later hb6
        obtain ⟨_, _, _⟩ := hX6.frees
        obtain ⟨_, _, _⟩ := hX6.cells
        have hX7 := at3_store hX6 (.int .i64 s2) (.int .i64 took) (.bool true)
        have hb7 := ((hbk.trans (hb4.mono (by omega))).trans (hb6.mono (by have := hX4.lt; omega))).trans ((store3_only w6 g (.int .i64 s2) (.int .i64 took) (.bool true)).below hle)
        go_upto_region 19 with fail
        generalize ((w6.setCell ⟨g, 0, none⟩ (.int .i64 s2)).setCell ⟨g, 1, none⟩ (.int .i64 took)).setCell ⟨g, 2, none⟩ (.bool true) = w7 at hX7 hb7 ⊢
        clear hb6 hb4 HN HN2 hXk hbk hX6 hX4 hl
        have hs2 : s2 ≤ 131072 := by omega
        clear q1
        go_wp2_with fail
        go_loopw [66] (fun kv wr => ∃ (k : Nat) (s : Int), k ≤ 400 ∧ kv = .int .i64 k ∧ 0 ≤ s ∧ s ≤ 131072 ∧ Hid (s ≤ jsq k) ∧ At3 25 wr g (.int .i64 s) (.int .i64 took) (.bool true) ∧ Below w.heap.size w wr)
          (fun kv _ => 400 - (intOf kv).toNat)
        case atStart => exact ⟨0, s2, by omega, rfl, q0, hs2, Lib.hid hs2, hX7, hb7⟩
        case round =>
          clear hX7 hb7 q0 hs2
          obtain ⟨k2, s3, hk2, rfl, r0, r1, HJ, hXq, hbq⟩ := hrel
          obtain ⟨_, _, _⟩ := hXq.frees
          obtain ⟨_, _, _⟩ := hXq.cells
          have hl := hXq.lt
          by_cases hlt2 : k2 < 400
          · have HN2 := Lib.hid (fun W => jNext1_any s3 took nw (nw + took) r0 (by omega) (by omega) (by omega) nw0 (by omega) (by omega) (by omega) W)
            have ed : nw + took - nw = took := by omega
            have ed2 : took - took = 0 := by omega
            rw [ed, ed2, show max (0 : Int) (-0) = 0 from by decide] at HN2
            have v0 := jst_nn s3 0 r0 (by omega)
            have v1 := jst_dn s3 r0
            have v2 := jst_down s3 r0
            have HJ2 := Lib.hid (jst_sq s3 k2 r0 HJ.out)
            clear ed ed2
            generalize jst s3 0 = s4 at HN2 v0 v1 v2 HJ2
            go_wp2_with fail
            refine (HN2.out _).mono ?_
            rintro e w8 ⟨rfl, hb8⟩
            have hX8 := hXq.later hb8
            obtain ⟨_, _, _⟩ := hX8.frees
            obtain ⟨_, _, _⟩ := hX8.cells
            have hX9 := at3_store hX8 (.int .i64 s4) (.int .i64 took) (.bool true)
            have hb9 := (hbq.trans (hb8.mono (by omega))).trans ((store3_only w8 g (.int .i64 s4) (.int .i64 took) (.bool true)).below hle)
            go_upto_region 23 with fail
            generalize ((w8.setCell ⟨g, 0, none⟩ (.int .i64 s4)).setCell ⟨g, 1, none⟩ (.int .i64 took)).setCell ⟨g, 2, none⟩ (.bool true) = w9 at hX9 hb9 ⊢
            clear hX8 hb8
            obtain ⟨_, _, _⟩ := hX9.cells
            go_wp2_with fail
            go_roundw
            case rel => exact ⟨k2 + 1, s4, by omega, by go_num, v0, by omega, HJ2, hX9, hb9⟩
            case measure => simp [intOf]; omega
          · obtain rfl : k2 = 400 := by omega
            have h15 := s_end s3 HJ.out
            have HV := Lib.hid (fun W => jValue_any s3 took true r0 (by omega) W)
            have e0 : s3 / 16 = 0 := by omega
            rw [e0] at HV
            clear e0
            go_wp2_with fail
            refine (HV.out _).mono ?_
            rintro e w8 ⟨rfl, hb8⟩
            have hb9 := hbq.trans (hb8.mono (by omega))
            go_wp2
            go_ret
            exact ⟨rfl, hb9⟩
      · obtain rfl : k = es.length := by omega
        obtain ⟨s', s0', s1', hN⟩ := first_ex s t nw took h s0 (by omega) trivial nw0 (by omega) t0 t1 (by rcases hh with ⟨rfl, _, _⟩ | ⟨rfl, rfl, h3⟩; exact .inl rfl; exact .inr ⟨rfl, by omega, by omega⟩)
        have HN := Lib.hid hN
        clear hN
        have HN2 := Lib.hid (fun W => jNext1_any s' took nw (nw + took) s0' (by omega) (by omega) (by omega) nw0 (by omega) (by omega) (by omega) W)
        have ed : nw + took - nw = took := by omega
        have ed2 : took - took = 0 := by omega
        rw [ed, ed2, show max (0 : Int) (-0) = 0 from by decide] at HN2
        have q0 := jst_nn s' 0 s0' (by omega)
        have q1 := jst_dn s' s0'
        clear ed ed2 hh
        generalize jst s' 0 = s2 at HN2 q0 q1
        go_wp2_with fail
        refine (HN.out _).mono ?_
        rintro e w4 ⟨rfl, hb4⟩
        have hX4 := hXk.later hb4
        go_wp2_with fail
        refine (HN2.out _).mono ?_
        rintro e w6 ⟨rfl, hb6⟩
        have hX6 := hX4.later hb6
        obtain ⟨_, _, _⟩ := hX6.frees
        obtain ⟨_, _, _⟩ := hX6.cells
        have hX7 := at3_store hX6 (.int .i64 s2) (.int .i64 took) (.bool true)
        have hb7 := ((hbk.trans (hb4.mono (by omega))).trans (hb6.mono (by have := hX4.lt; omega))).trans ((store3_only w6 g (.int .i64 s2) (.int .i64 took) (.bool true)).below hle)
        go_upto_region 19 with fail
        generalize ((w6.setCell ⟨g, 0, none⟩ (.int .i64 s2)).setCell ⟨g, 1, none⟩ (.int .i64 took)).setCell ⟨g, 2, none⟩ (.bool true) = w7 at hX7 hb7 ⊢
        clear hb6 hb4 HN HN2 hXk hbk hX6 hX4 hl
        have hs2 : s2 ≤ 131072 := by omega
        clear q1
        go_wp2_with fail
        go_loopw [66] (fun kv wr => ∃ (k : Nat) (s : Int), k ≤ 400 ∧ kv = .int .i64 k ∧ 0 ≤ s ∧ s ≤ 131072 ∧ Hid (s ≤ jsq k) ∧ At3 25 wr g (.int .i64 s) (.int .i64 took) (.bool true) ∧ Below w.heap.size w wr)
          (fun kv _ => 400 - (intOf kv).toNat)
        case atStart => exact ⟨0, s2, by omega, rfl, q0, hs2, Lib.hid hs2, hX7, hb7⟩
        case round =>
          clear hX7 hb7 q0 hs2
          obtain ⟨k2, s3, hk2, rfl, r0, r1, HJ, hXq, hbq⟩ := hrel
          obtain ⟨_, _, _⟩ := hXq.frees
          obtain ⟨_, _, _⟩ := hXq.cells
          have hl := hXq.lt
          by_cases hlt2 : k2 < 400
          · have HN2 := Lib.hid (fun W => jNext1_any s3 took nw (nw + took) r0 (by omega) (by omega) (by omega) nw0 (by omega) (by omega) (by omega) W)
            have ed : nw + took - nw = took := by omega
            have ed2 : took - took = 0 := by omega
            rw [ed, ed2, show max (0 : Int) (-0) = 0 from by decide] at HN2
            have v0 := jst_nn s3 0 r0 (by omega)
            have v1 := jst_dn s3 r0
            have v2 := jst_down s3 r0
            have HJ2 := Lib.hid (jst_sq s3 k2 r0 HJ.out)
            clear ed ed2
            generalize jst s3 0 = s4 at HN2 v0 v1 v2 HJ2
            go_wp2_with fail
            refine (HN2.out _).mono ?_
            rintro e w8 ⟨rfl, hb8⟩
            have hX8 := hXq.later hb8
            obtain ⟨_, _, _⟩ := hX8.frees
            obtain ⟨_, _, _⟩ := hX8.cells
            have hX9 := at3_store hX8 (.int .i64 s4) (.int .i64 took) (.bool true)
            have hb9 := (hbq.trans (hb8.mono (by omega))).trans ((store3_only w8 g (.int .i64 s4) (.int .i64 took) (.bool true)).below hle)
            go_upto_region 23 with fail
            generalize ((w8.setCell ⟨g, 0, none⟩ (.int .i64 s4)).setCell ⟨g, 1, none⟩ (.int .i64 took)).setCell ⟨g, 2, none⟩ (.bool true) = w9 at hX9 hb9 ⊢
            clear hX8 hb8
            obtain ⟨_, _, _⟩ := hX9.cells
            go_wp2_with fail
            go_roundw
            case rel => exact ⟨k2 + 1, s4, by omega, by go_num, v0, by omega, HJ2, hX9, hb9⟩
            case measure => simp [intOf]; omega
          · obtain rfl : k2 = 400 := by omega
            have h15 := s_end s3 HJ.out
            have HV := Lib.hid (fun W => jValue_any s3 took true r0 (by omega) W)
            have e0 : s3 / 16 = 0 := by omega
            rw [e0] at HV
            clear e0
            go_wp2_with fail
            refine (HV.out _).mono ?_
            rintro e w8 ⟨rfl, hb8⟩
            have hb9 := hbq.trans (hb8.mono (by omega))
            go_wp2
            go_ret
            exact ⟨rfl, hb9⟩
end gaugeEven
end Go.Proofs.Ytolbnbjbehdnaaa
