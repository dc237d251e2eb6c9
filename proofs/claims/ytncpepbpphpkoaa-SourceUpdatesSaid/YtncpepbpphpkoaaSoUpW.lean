/- SourceUpdates: the walk. -/
import Derived.Test.YtncpepbpphpkoaaSoW
import Derived.Test.YtncpepbpphpkoaaSerC
namespace Go.Proofs.Ytncpepbpphpkoaa
open Go.RowKit
set_option linter.unusedVariables false
namespace sourceUpdates
set_option maxRecDepth 100000 in
set_option maxHeartbeats 6400000 in
theorem walk (a0 : Int) (p1 : Option Addr) (len1 cap1 : Nat) (z1 : List Int) (w0 : (Lit.int .u16 a0).wf = true) (w : World) (w1 : IsRow .u16 w p1 len1 cap1 z1) :
    Calls Try.prog 3 #[.int .u16 a0, .slice p1 len1 cap1] w fun e w' => e = .returned (.bool true) ∧ Below w.heap.size w w' := by
  obtain ⟨b1, b2⟩ := u16_bd w0
  obtain ⟨es0, rfl, l1, l2, hr0, hwf0⟩ := w1.reads
  clear w1 w0
  have hmA : (0 : Int) ≤ min (es0.length : Int) 120 := by omega
  have hmB : min (es0.length : Int) 120 ≤ (cap1 : Int) := by omega
  have hr1 := hr0.take 120
  have hwf := u16s_bd (fun n (hn : n ∈ es0.take 120) => hwf0 n (List.mem_of_mem_take hn))
  have hln : (min (es0.length : Int) 120).toNat = (es0.take 120).length := by rw [List.length_take]; omega
  have hl120 : (es0.take 120).length ≤ 120 := by rw [List.length_take]; omega
  clear hr0 hwf0
  generalize es0.take 120 = es at hr1 hwf hln hl120
  have HR := Lib.hid (fun (W : World) (h : Below w.heap.size w W) => hr1.later h)
  have HWF := Lib.hid hwf
  have H0 : Hid (∀ i, i < es.length → 0 ≤ es[i]?.getD 0 ∧ es[i]?.getD 0 < 65536) := Lib.hid (fun i hi => hwf _ (by simp [hi]))
  have HOK := Lib.hid (so_ok0 a0 b1 (by omega))
  have HN := Lib.hid (fun W => soNew_any a0 b1 (by omega) W)
  have HNR := Lib.hid (fun W => refNew_any a0 b1 (by omega) W)
  have hi := i64_16 a0 b1 (by omega)
  have HRUN := Lib.hid (fun W hb => soRun_any (SR.new a0) 0 HOK.out es p1 cap1 W (HR.out W hb) HWF.out (by omega))
  have HSTEP : Hid (∀ k, k < es.length → (SR.new a0).run (es.take (k + 1)) = ((((SR.new a0).run (es.take k)).1.upd (es[k]?.getD 0)).1, ((SR.new a0).run (es.take k)).2 + tick (((SR.new a0).run (es.take k)).1.upd (es[k]?.getD 0)).2)) := Lib.hid (fun k hk => SR.run_step (SR.new a0) es k hk)
  have HEND : Hid ((SR.new a0).run (es.take es.length) = (SR.new a0).run es) := Lib.hid (by rw [List.take_length])
  have HST : Hid ((SR.new a0).run (es.take 0) = (SR.new a0, 0)) := Lib.hid (by simp [SR.run])
  generalize hRE : (SR.new a0).run es = RE at HEND HRUN
  clear hRE hr1 hwf
  generalize SR.new a0 = s0 at HN HNR HRUN HSTEP HEND HST HOK
  obtain ⟨mx, cy, ba, bd, pr, rc⟩ := s0
  obtain ⟨⟨mxe, cye, bae, bde, pre, rce⟩, ce⟩ := RE
  simp only [SR.val, SR.ref] at HN HNR HRUN
  go_enter Try.func3, Try.ntmps3
  go_wp2_with fail
  refine (soAwake_any _).mono ?_
  rintro e wa ⟨rfl, hba⟩
  have hsz := hba.size
  go_upto_region 4 with fail
  go_wp2_with fail
  refine (HN.out _).mono ?_
  rintro e w3 ⟨rfl, hb3⟩
  have hq3 := hba.trans (hb3.mono hsz)
  go_wp2_with fail
  refine (HNR.out _).mono ?_
  rintro e w4 ⟨rfl, hb4⟩
  have hq4 := hq3.trans (hb4.mono hq3.size)
  clear hb3 hb4 hq3 hba hsz
  have hsz := hq4.size
  go_upto_region 5 with fail
  have hX : At6 26 ((w4.alloc (.cells #[.int .u16 mx, .int .i64 cy, .int .i64 ba, .int .i64 bd, .int .i64 pr, .int .i64 rc] 26)).alloc (.cells #[.int .i64 mx, .int .i64 cy, .int .i64 ba, .int .i64 bd, .int .i64 pr, .int .i64 rc] 29)) w4.heap.size (.int .u16 mx) (.int .i64 cy) (.int .i64 ba) (.int .i64 bd) (.int .i64 pr) (.int .i64 rc) := (at6_new 26 w4 _ (.int .u16 mx) (.int .i64 cy) (.int .i64 ba) (.int .i64 bd) (.int .i64 pr) (.int .i64 rc) rfl).alloc _
  have hY : At6 29 ((w4.alloc (.cells #[.int .u16 mx, .int .i64 cy, .int .i64 ba, .int .i64 bd, .int .i64 pr, .int .i64 rc] 26)).alloc (.cells #[.int .i64 mx, .int .i64 cy, .int .i64 ba, .int .i64 bd, .int .i64 pr, .int .i64 rc] 29)) (w4.heap.size + 1) (.int .i64 mx) (.int .i64 cy) (.int .i64 ba) (.int .i64 bd) (.int .i64 pr) (.int .i64 rc) := at6_new 29 _ _ (.int .i64 mx) (.int .i64 cy) (.int .i64 ba) (.int .i64 bd) (.int .i64 pr) (.int .i64 rc) (by simp)
  have hb : Below w.heap.size w ((w4.alloc (.cells #[.int .u16 mx, .int .i64 cy, .int .i64 ba, .int .i64 bd, .int .i64 pr, .int .i64 rc] 26)).alloc (.cells #[.int .i64 mx, .int .i64 cy, .int .i64 ba, .int .i64 bd, .int .i64 pr, .int .i64 rc] 29)) := (hq4.alloc hsz _).alloc (by simp; omega) _
  have hgy : w.heap.size ≤ w4.heap.size + 1 := by omega
  generalize ((w4.alloc (.cells #[.int .u16 mx, .int .i64 cy, .int .i64 ba, .int .i64 bd, .int .i64 pr, .int .i64 rc] 26)).alloc (.cells #[.int .i64 mx, .int .i64 cy, .int .i64 ba, .int .i64 bd, .int .i64 pr, .int .i64 rc] 29)) = w5 at hX hY hb ⊢
  generalize hgn : w4.heap.size + 1 = gy at hY hgy ⊢
  generalize w4.heap.size = g at hX hsz hgn ⊢
  have hne : g ≠ gy := by omega
  clear hgn hq4
  go_wp2_with fail
  go_loopw [7, 30] (fun z i wr => ∃ (k : Nat) (t : SR) (c : Int), k ≤ es.length ∧ i = .int .i64 k ∧ z = .int .i64 c ∧ t.Ok k ∧ Hid ((SR.mk mx cy ba bd pr rc).run (es.take k) = (t, c)) ∧ 0 ≤ c ∧ c ≤ k ∧ At6 26 wr g (.int .u16 t.mx) (.int .i64 t.cy) (.int .i64 t.ba) (.int .i64 t.bd) (.int .i64 t.pr) (.int .i64 t.rc) ∧ At6 29 wr gy (.int .i64 t.mx) (.int .i64 t.cy) (.int .i64 t.ba) (.int .i64 t.bd) (.int .i64 t.pr) (.int .i64 t.rc) ∧ Below w.heap.size w wr) (fun _ i _ => es.length - (intOf i).toNat)
  case atStart => exact ⟨0, ⟨mx, cy, ba, bd, pr, rc⟩, 0, Nat.zero_le _, rfl, rfl, HOK.out, HST, by omega, by omega, hX, hY, hb⟩
  case round =>
    obtain ⟨k, t, c, hk, rfl, rfl, ht, hrun, hc0, hc1, hXk, hYk, hbk⟩ := hrel
    clear hX hY hb
    by_cases hlt : k < es.length
    · obtain ⟨ab, off, rfl, hcell⟩ := (HR.out wr hbk).at hlt
      obtain ⟨n0, n1⟩ := H0.out k hlt
      have hst := HSTEP.out k hlt
      rw [hrun.out] at hst
      simp only at hst
      generalize es[k]?.getD 0 = n at hcell n0 n1 hst
      have hn1 := i64_16 n n0 n1
      have hU := SR.upd_ok ht n n0 n1
      have hC := soUpd_any t k ht (by omega) n n0 n1
      have hD := refUpd_any t k ht (by omega) n n0 n1
      obtain ⟨mx1, cy1, ba1, bd1, pr1, rc1⟩ := t
      generalize hup : SR.upd ⟨mx1, cy1, ba1, bd1, pr1, rc1⟩ n = UP at hst hU hC hD
      obtain ⟨⟨mx2, cy2, ba2, bd2, pr2, rc2⟩, cb⟩ := UP
      simp only [SR.val, SR.ref] at hst hU hC hD hXk hYk
      have hT := fun W => told_any mx2 cy2 ba2 bd2 pr2 rc2 hU.m0 hU.m1 W
      have hH := fun W => soHigh_any ⟨mx2, cy2, ba2, bd2, pr2, rc2⟩ (k + 1) hU (by omega) W
      have hHR := fun W => refHigh_any ⟨mx2, cy2, ba2, bd2, pr2, rc2⟩ (k + 1) hU (by omega) W
      have hE := fun W => soExp_any ⟨mx2, cy2, ba2, bd2, pr2, rc2⟩ (k + 1) hU (by omega) W
      have hER := fun W => refExp_any ⟨mx2, cy2, ba2, bd2, pr2, rc2⟩ (k + 1) hU (by omega) W
      have hXX := fun W => soExt_any ⟨mx2, cy2, ba2, bd2, pr2, rc2⟩ (k + 1) hU (by omega) n W
      have hXR := fun W => refExtend_any (SR.high ⟨mx2, cy2, ba2, bd2, pr2, rc2⟩) n W n0 (by omega)
      generalize SR.high ⟨mx2, cy2, ba2, bd2, pr2, rc2⟩ = hg at hH hHR hXX hXR
      generalize SR.exp ⟨mx2, cy2, ba2, bd2, pr2, rc2⟩ = ex at hE hER
      generalize near62 hg + d16 (near62 hg % 65536) n = xt at hXX hXR
      simp only [SR.val, SR.ref] at hH hHR hE hER hXX
      have HC := Lib.hid hC
      have HD := Lib.hid hD
      have HT := Lib.hid hT
      have HH := Lib.hid hH
      have HHR := Lib.hid hHR
      have HE := Lib.hid hE
      have HER := Lib.hid hER
      have HX := Lib.hid hXX
      have HXR := Lib.hid hXR
      have HST2 := Lib.hid hst
      have HU := Lib.hid hU
      clear hC hD hst hU hup hrun hT hH hHR hE hER hXX hXR
      obtain ⟨_, _, _, _, _, _⟩ := hXk.cells
      have l1 := hXk.lt
      go_wp2_with fail
      refine (HC.out _).mono ?_
      rintro e w6 ⟨rfl, hk6⟩
      have hX6 := (hXk.later hk6).alloc (.cells #[.int .u16 mx2, .int .i64 cy2, .int .i64 ba2, .int .i64 bd2, .int .i64 pr2, .int .i64 rc2] 26)
      have hY6 := (hYk.later hk6).alloc (.cells #[.int .u16 mx2, .int .i64 cy2, .int .i64 ba2, .int .i64 bd2, .int .i64 pr2, .int .i64 rc2] 26)
      have hN6 := at6_new 26 w6 _ (.int .u16 mx2) (.int .i64 cy2) (.int .i64 ba2) (.int .i64 bd2) (.int .i64 pr2) (.int .i64 rc2) rfl
      have hb6 := (hbk.trans (hk6.mono (by omega))).alloc (by have := (hXk.later hk6).lt; omega) (.cells #[.int .u16 mx2, .int .i64 cy2, .int .i64 ba2, .int .i64 bd2, .int .i64 pr2, .int .i64 rc2] 26)
      have hgn : g ≠ w6.heap.size := by have := (hXk.later hk6).lt; omega
      have hyn : gy ≠ w6.heap.size := by have := (hYk.later hk6).lt; omega
      go_upto_region 10 with fail
      generalize w6.alloc (.cells #[.int .u16 mx2, .int .i64 cy2, .int .i64 ba2, .int .i64 bd2, .int .i64 pr2, .int .i64 rc2] 26) = w7 at hX6 hY6 hN6 hb6 ⊢
      generalize w6.heap.size = gn at hN6 hgn hyn ⊢
      clear hk6 hXk hYk hbk l1
      obtain ⟨_, _, _, _, _, _⟩ := hY6.cells
      have l1 := hX6.lt
      go_wp2_with fail
      refine (HD.out _).mono ?_
      rintro e w8 ⟨rfl, hk8⟩
      have hX8 := (hX6.later hk8).alloc (.cells #[.int .i64 mx2, .int .i64 cy2, .int .i64 ba2, .int .i64 bd2, .int .i64 pr2, .int .i64 rc2] 29)
      have hY8 := (hY6.later hk8).alloc (.cells #[.int .i64 mx2, .int .i64 cy2, .int .i64 ba2, .int .i64 bd2, .int .i64 pr2, .int .i64 rc2] 29)
      have hN8 := (hN6.later hk8).alloc (.cells #[.int .i64 mx2, .int .i64 cy2, .int .i64 ba2, .int .i64 bd2, .int .i64 pr2, .int .i64 rc2] 29)
      have hM8 := at6_new 29 w8 _ (.int .i64 mx2) (.int .i64 cy2) (.int .i64 ba2) (.int .i64 bd2) (.int .i64 pr2) (.int .i64 rc2) rfl
      have hb8 := (hb6.trans (hk8.mono (by omega))).alloc (by have := (hX6.later hk8).lt; omega) (.cells #[.int .i64 mx2, .int .i64 cy2, .int .i64 ba2, .int .i64 bd2, .int .i64 pr2, .int .i64 rc2] 29)
      have hgm : g ≠ w8.heap.size := by have := (hX6.later hk8).lt; omega
      have hym : gy ≠ w8.heap.size := by have := (hY6.later hk8).lt; omega
      have hnm : gn ≠ w8.heap.size := by have := (hN6.later hk8).lt; omega
      go_upto_region 11 with fail
      generalize w8.alloc (.cells #[.int .i64 mx2, .int .i64 cy2, .int .i64 ba2, .int .i64 bd2, .int .i64 pr2, .int .i64 rc2] 29) = w9 at hX8 hY8 hN8 hM8 hb8 ⊢
      generalize w8.heap.size = gm at hM8 hgm hym hnm ⊢
      clear hk8 hX6 hY6 hN6 hb6 l1
      go_cut [] (fun wx => At6 26 wx g (.int .u16 mx2) (.int .i64 cy2) (.int .i64 ba2) (.int .i64 bd2) (.int .i64 pr2) (.int .i64 rc2) ∧ At6 29 wx gy (.int .i64 mx2) (.int .i64 cy2) (.int .i64 ba2) (.int .i64 bd2) (.int .i64 pr2) (.int .i64 rc2) ∧ Below w.heap.size w wx)
      case first =>
        obtain ⟨_, _, _, _, _, _⟩ := hX8.cells
        obtain ⟨_, _, _, _, _, _⟩ := hY8.cells
        obtain ⟨_, _, _, _, _, _⟩ := hN8.cells
        obtain ⟨_, _, _, _, _, _⟩ := hM8.cells
        obtain ⟨_, _, _, _, _, _⟩ := hX8.frees
        obtain ⟨_, _, _, _, _, _⟩ := hY8.frees
        go_region
        all_goals
          go_wp2_with fail
          go_meet
          have hX9 := at6_store hX8 (.int .u16 mx2) (.int .i64 cy2) (.int .i64 ba2) (.int .i64 bd2) (.int .i64 pr2) (.int .i64 rc2)
          have ho9 := store6_only w9 g (.int .u16 mx2) (.int .i64 cy2) (.int .i64 ba2) (.int .i64 bd2) (.int .i64 pr2) (.int .i64 rc2)
          have hY9 := hY8.only (fun e => hne e.symm) ho9
          have hb9 := hb8.trans (ho9.below hsz)
          have hY10 := at6_store hY9 (.int .i64 mx2) (.int .i64 cy2) (.int .i64 ba2) (.int .i64 bd2) (.int .i64 pr2) (.int .i64 rc2)
          have ho10 := store6_only (((((((w9.setCell ⟨g, 0, none⟩ (.int .u16 mx2)).setCell ⟨g, 1, none⟩ (.int .i64 cy2)).setCell ⟨g, 2, none⟩ (.int .i64 ba2)).setCell ⟨g, 3, none⟩ (.int .i64 bd2)).setCell ⟨g, 4, none⟩ (.int .i64 pr2)).setCell ⟨g, 5, none⟩ (.int .i64 rc2))) gy (.int .i64 mx2) (.int .i64 cy2) (.int .i64 ba2) (.int .i64 bd2) (.int .i64 pr2) (.int .i64 rc2)
          have hX10 := hX9.only hne ho10
          have hb10 := hb9.trans (ho10.below hgy)
          exact ⟨hX10.drew, hY10.drew, hb10.drew⟩
      case rest =>
      obtain ⟨hX9, hY9, hb9⟩ := hcut
      clear hX8 hY8 hN8 hM8 hb8
      rename World => w10
      go_upto_region 12 with fail
      go_cut [82] (fun z wx => z = .bool false ∧ At6 26 wx g (.int .u16 mx2) (.int .i64 cy2) (.int .i64 ba2) (.int .i64 bd2) (.int .i64 pr2) (.int .i64 rc2) ∧ At6 29 wx gy (.int .i64 mx2) (.int .i64 cy2) (.int .i64 ba2) (.int .i64 bd2) (.int .i64 pr2) (.int .i64 rc2) ∧ Below w.heap.size w wx)
      case first =>
        go_region_held3 (fun W => W.cell? ⟨g, 0, none⟩ = some (.int .u16 mx2) ∧ W.cell? ⟨g, 1, none⟩ = some (.int .i64 cy2) ∧ W.cell? ⟨g, 2, none⟩ = some (.int .i64 ba2) ∧ W.cell? ⟨g, 3, none⟩ = some (.int .i64 bd2) ∧ W.cell? ⟨g, 4, none⟩ = some (.int .i64 pr2) ∧ W.cell? ⟨g, 5, none⟩ = some (.int .i64 rc2) ∧ W.cell? ⟨gy, 0, none⟩ = some (.int .i64 mx2) ∧ W.cell? ⟨gy, 1, none⟩ = some (.int .i64 cy2) ∧ W.cell? ⟨gy, 2, none⟩ = some (.int .i64 ba2) ∧ W.cell? ⟨gy, 3, none⟩ = some (.int .i64 bd2) ∧ W.cell? ⟨gy, 4, none⟩ = some (.int .i64 pr2) ∧ W.cell? ⟨gy, 5, none⟩ = some (.int .i64 rc2) ∧ At6 26 W g (.int .u16 mx2) (.int .i64 cy2) (.int .i64 ba2) (.int .i64 bd2) (.int .i64 pr2) (.int .i64 rc2) ∧ At6 29 W gy (.int .i64 mx2) (.int .i64 cy2) (.int .i64 ba2) (.int .i64 bd2) (.int .i64 pr2) (.int .i64 rc2) ∧ Below w.heap.size w W) (first | (go_keep; done) | exact so_start2 hX9.drew hY9.drew hb9.drew | exact so_step2 hsz hgy (by go_split_ands; assumption) (by go_split_ands; assumption) (by go_split_ands; assumption) (by assumption) | (go_split_ands; assumption)) (first | (go_at_call 14; refine (HT.out _).mono ?_; rintro e w11 ⟨rfl, hk11⟩) | (go_at_call 15; refine (HH.out _).mono ?_; rintro e w12 ⟨rfl, hk12⟩) | (go_at_call 16; refine (HHR.out _).mono ?_; rintro e w13 ⟨rfl, hk13⟩) | (go_at_call 17; refine (HE.out _).mono ?_; rintro e w14 ⟨rfl, hk14⟩) | (go_at_call 18; refine (HER.out _).mono ?_; rintro e w15 ⟨rfl, hk15⟩) | (go_at_call 19; refine (HX.out _).mono ?_; rintro e w16 ⟨rfl, hk16⟩) | (go_at_call 20; refine (HXR.out _).mono ?_; rintro e w17 ⟨rfl, rfl⟩))
        all_goals
          go_wp2_with fail
          go_meet
          exact ⟨rfl, by go_split_ands; assumption, by go_split_ands; assumption, by go_split_ands; assumption⟩
      case rest =>
      obtain ⟨rfl, hX11, hY11, hb11⟩ := hcut
      clear hX9 hY9 hb9 HT HH HHR HE HER HX HXR HC HD
      cases cb
      · go_wp2_with fail
        go_roundw
        case rel => exact ⟨k + 1, ⟨mx2, cy2, ba2, bd2, pr2, rc2⟩, c, by omega, by go_num, rfl, HU.out, Lib.hid (HST2.out.trans (by simp [tick])), by omega, by omega, hX11, hY11, hb11⟩
        case measure => simp [intOf]; omega
      · go_wp2_with fail
        go_roundw
        case rel => exact ⟨k + 1, ⟨mx2, cy2, ba2, bd2, pr2, rc2⟩, c + 1, by omega, by go_num, rfl, HU.out, Lib.hid (HST2.out.trans (by simp [tick])), by omega, by omega, hX11, hY11, hb11⟩
        case measure => simp [intOf]; omega
    · obtain rfl : k = es.length := by omega
      have hRE := hrun.out.symm.trans HEND.out
      obtain ⟨mx1, cy1, ba1, bd1, pr1, rc1⟩ := t
      simp only [Prod.mk.injEq, SR.mk.injEq] at hRE
      obtain ⟨⟨rfl, rfl, rfl, rfl, rfl, rfl⟩, rfl⟩ := hRE
      simp only at hXk
      have l1 := hXk.lt
      go_wp2_with fail
      refine (HN.out _).mono ?_
      rintro e w6 ⟨rfl, hk6⟩
      have hX6 := hXk.later hk6
      have hb6 := hbk.trans (hk6.mono (by omega))
      have l2 := hX6.lt
      go_wp2_with fail
      refine (HRUN.out _ hb6).mono ?_
      rintro e w7 ⟨rfl, hk7⟩
      have hX7 := (hX6.later hk7).alloc (.cells #[.int .u16 mx1, .int .i64 cy1, .int .i64 ba1, .int .i64 bd1, .int .i64 pr1, .int .i64 rc1] 26)
      have hN7 := at6_new 26 w7 _ (.int .u16 mx1) (.int .i64 cy1) (.int .i64 ba1) (.int .i64 bd1) (.int .i64 pr1) (.int .i64 rc1) rfl
      have hb7 := (hb6.trans (hk7.mono (by omega))).alloc (by have := (hX6.later hk7).lt; omega) (.cells #[.int .u16 mx1, .int .i64 cy1, .int .i64 ba1, .int .i64 bd1, .int .i64 pr1, .int .i64 rc1] 26)
      go_upto_region 18 with fail
      generalize w7.alloc (.cells #[.int .u16 mx1, .int .i64 cy1, .int .i64 ba1, .int .i64 bd1, .int .i64 pr1, .int .i64 rc1] 26) = w8 at hX7 hN7 hb7 ⊢
      generalize w7.heap.size = gn at hN7 ⊢
      obtain ⟨_, _, _, _, _, _⟩ := hX7.cells
      obtain ⟨_, _, _, _, _, _⟩ := hN7.cells
      go_wp2_with fail
      go_ret
      exact ⟨rfl, hb7⟩
end sourceUpdates
end Go.Proofs.Ytncpepbpphpkoaa
