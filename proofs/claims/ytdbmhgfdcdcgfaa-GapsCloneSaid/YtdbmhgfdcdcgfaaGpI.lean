/- gaps: Came. -/
import Derived.Test.YtdbmhgfdcdcgfaaGpH
namespace Go.Proofs.Ytdbmhgfdcdcgfaa
open Go.RowKit
set_option linter.unusedVariables false
set_option linter.unusedSimpArgs false

set_option maxRecDepth 100000 in
set_option maxHeartbeats 1600000 in
theorem gpCameFirst {w : World} {base gg : Nat} {c : GC} {gr : Int} {v : Value} {l : List GW} {gv : Int} (h : GIn w base gg c false gr v [] gv) (n now : Int) :
    Calls Try.prog 16 #[.pointer (some ⟨gg, 0, none⟩), .int .i64 n, .int .i64 now] w fun e w' => e = .returned (.int .i64 0) ∧ (∃ v', GIn w' base gg c true (gpN n) v' [] gv) ∧ Below base w w' ∧ KeptG w w' := by
  have HC := Lib.hid (gpClip_any c w)
  rw [h.ok.same] at HC
  simp only [GC.val] at HC
  have HI := Lib.hid h
  obtain ⟨_, _, _, _, _, _, _, _⟩ := h.at8.cells
  have hbz : base ≤ w.heap.size := by have := h.at8.lt; have := h.bs; omega
  clear h
  go_enter Try.func16, Try.ntmps16
  go_wp2_with fail
  refine HC.out.mono ?_
  rintro e w2 ⟨rfl, hk2⟩
  have hI2 := HI.out.later hk2
  obtain ⟨_, _, _, _, _, _, _, _⟩ := hI2.at8.cells
  obtain ⟨_, _, _, _, _, _, _, _⟩ := hI2.at8.frees
  have ho3 := put4_only w2 gg (.int .i64 c.m) (.int .i64 c.t) (.int .i64 c.f) (.int .i64 c.a)
  have hX3 := at8_put4 hI2.at8 (.int .i64 c.m) (.int .i64 c.t) (.int .i64 c.f) (.int .i64 c.a)
  have hI3 := GIn.mk hI2.bs hX3 (hI2.own.keep (by rw [ho3.size]; exact Nat.le_refl _) (fun k cs hk _ => ho3.block k (fun e => hI2.apart (by rw [hk, e])))) hI2.ok hI2.len hI2.up hI2.gb hI2.nb hI2.ab
  have hb3 : Below base w _ := (hk2.mono hbz).trans (ho3.below hI2.bs)
  have hK3 : KeptG w _ := (keptG_below hk2).trans (keptG_only hI2.at8 ho3)
  go_upto_region 2 with fail
  generalize ((((w2.setCell ⟨gg, 0, none⟩ (.int .i64 c.m)).setCell ⟨gg, 1, none⟩ (.int .i64 c.t)).setCell ⟨gg, 2, none⟩ (.int .i64 c.f)).setCell ⟨gg, 3, none⟩ (.int .i64 c.a)) = w3 at hI3 hb3 hK3 ⊢
  clear ho3 hX3 hI2 hk2 HC HI
  obtain ⟨_, _, _, _, _, _, _, _⟩ := hI3.at8.cells
  obtain ⟨_, _, _, _, _, _, _, _⟩ := hI3.at8.frees
  go_wp2_with fail
  refine (gpAmong_q (-1099511627776) n 1099511627776 w3).mono ?_
  rintro e w4 ⟨rfl, rfl⟩
  have HNN := Lib.hid (show gAm (-1099511627776) n 1099511627776 = gpN n from rfl)
  rw [HNN.out]
  have hnb := gpN_bd n
  generalize hz : gpN n = z at *
  have HZZ := Lib.hid hz
  clear hz
  have ho5 := ((Only.refl gg w4).setCell 4 (.bool true)).setCell 5 (.int .i64 z)
  have hX5 := at8_set5 (at8_set4 hI3.at8 (.bool true)) (.int .i64 z)
  have hO5 := hI3.own.keep (W' := (w4.setCell ⟨gg, 4, none⟩ (.bool true)).setCell ⟨gg, 5, none⟩ (.int .i64 z)) (by rw [ho5.size]; exact Nat.le_refl _) (fun k cs hk _ => ho5.block k (fun e => hI3.apart (by rw [hk, e])))
  have HF := Lib.hid (show GIn _ base gg c true z v [] gv ∧ Below base w _ ∧ KeptG w _ from ⟨⟨hI3.bs, hX5, hO5, hI3.ok, hI3.len, hI3.up, hnb, by simp, by simp⟩, hb3.trans (ho5.below hI3.bs), hK3.trans (keptG_only hI3.at8 ho5)⟩)
  clear ho5 hX5 hO5
  go_wp2_with fail
  go_ret
  exact ⟨rfl, ⟨_, by rw [HZZ.out]; exact HF.out.1⟩, HF.out.2.1, HF.out.2.2⟩

set_option maxRecDepth 100000 in
set_option maxHeartbeats 1600000 in
theorem gpCameLeap {w : World} {base gg : Nat} {c : GC} {gr : Int} {v : Value} {l : List GW} {gv : Int} (h : GIn w base gg c true gr v l gv) (n now : Int) (hn : gr < gpN n) (hgv : 0 ≤ gv ∧ gv ≤ 1152921504606846976) :
    Calls Try.prog 16 #[.pointer (some ⟨gg, 0, none⟩), .int .i64 n, .int .i64 now] w fun e w' => e = .returned (.int .i64 (gpGive c.m gr (gpN n) l)) ∧ (∃ v', GIn w' base gg c true (gpN n) v' (gpLeap c gr (gpN n) (gpK now) l) (gv + gpGive c.m gr (gpN n) l)) ∧ Below base w w' ∧ KeptG w w' := by
  have HC := Lib.hid (gpClip_any c w)
  rw [h.ok.same] at HC
  simp only [GC.val] at HC
  have HI := Lib.hid h
  obtain ⟨_, _, _, _, _, _, _, _⟩ := h.at8.cells
  have hbz : base ≤ w.heap.size := by have := h.at8.lt; have := h.bs; omega
  clear h
  go_enter Try.func16, Try.ntmps16
  go_wp2_with fail
  refine HC.out.mono ?_
  rintro e w2 ⟨rfl, hk2⟩
  have hI2 := HI.out.later hk2
  obtain ⟨_, _, _, _, _, _, _, _⟩ := hI2.at8.cells
  obtain ⟨_, _, _, _, _, _, _, _⟩ := hI2.at8.frees
  have ho3 := put4_only w2 gg (.int .i64 c.m) (.int .i64 c.t) (.int .i64 c.f) (.int .i64 c.a)
  have hX3 := at8_put4 hI2.at8 (.int .i64 c.m) (.int .i64 c.t) (.int .i64 c.f) (.int .i64 c.a)
  have hI3 := GIn.mk hI2.bs hX3 (hI2.own.keep (by rw [ho3.size]; exact Nat.le_refl _) (fun k cs hk _ => ho3.block k (fun e => hI2.apart (by rw [hk, e])))) hI2.ok hI2.len hI2.up hI2.gb hI2.nb hI2.ab
  have hb3 : Below base w _ := (hk2.mono hbz).trans (ho3.below hI2.bs)
  have hK3 : KeptG w _ := (keptG_below hk2).trans (keptG_only hI2.at8 ho3)
  go_upto_region 2 with fail
  generalize ((((w2.setCell ⟨gg, 0, none⟩ (.int .i64 c.m)).setCell ⟨gg, 1, none⟩ (.int .i64 c.t)).setCell ⟨gg, 2, none⟩ (.int .i64 c.f)).setCell ⟨gg, 3, none⟩ (.int .i64 c.a)) = w3 at hI3 hb3 hK3 ⊢
  clear ho3 hX3 hI2 hk2 HC HI
  obtain ⟨_, _, _, _, _, _, _, _⟩ := hI3.at8.cells
  obtain ⟨_, _, _, _, _, _, _, _⟩ := hI3.at8.frees
  go_wp2_with fail
  refine (gpAmong_q (-1099511627776) n 1099511627776 w3).mono ?_
  rintro e w4 ⟨rfl, rfl⟩
  have HNN := Lib.hid (show gAm (-1099511627776) n 1099511627776 = gpN n from rfl)
  rw [HNN.out]
  have hnb := gpN_bd n
  have hkb := gpK_bd now
  have HT := Lib.hid (gpTick_q now w4)
  have HL := Lib.hid (gpLeap_any hI3 (gpN n) (gpK now) hn hnb.2 hkb hgv)
  have hlt : decide (gr < gpN n) = true := by simp; omega
  generalize hz : gpN n = z at *
  have HZZ := Lib.hid hz
  clear hz hI3
  generalize hy : gpK now = y at *
  have HYY := Lib.hid hy
  clear hy
  go_wp2_with fail
  refine HT.out.mono ?_
  rintro e w5 ⟨rfl, rfl⟩
  go_wp2_with fail
  refine HL.out.mono ?_
  rintro e w6 ⟨rfl, ⟨v6, hI6⟩, hb6, hK6⟩
  have HF := Lib.hid hI6
  clear hI6
  generalize hu : gpGive c.m gr z l = u at *
  have HUU := Lib.hid hu
  clear hu
  go_wp2_with fail
  go_ret
  exact ⟨by rw [HZZ.out, HUU.out]; rfl, ⟨_, by rw [HZZ.out, HYY.out, HUU.out]; exact HF.out⟩, hb3.trans hb6, hK3.trans hK6⟩

set_option maxRecDepth 100000 in
set_option maxHeartbeats 1600000 in
theorem gpCameFound {w : World} {base gg : Nat} {c : GC} {gr : Int} {v : Value} {l : List GW} {gv : Int} (h : GIn w base gg c true gr v l gv) (n now : Int) (hn : gpN n ≤ gr) :
    Calls Try.prog 16 #[.pointer (some ⟨gg, 0, none⟩), .int .i64 n, .int .i64 now] w fun e w' => e = .returned (.int .i64 0) ∧ (∃ v', GIn w' base gg c true gr v' (gpRm (gpN n) l) gv) ∧ Below base w w' ∧ KeptG w w' := by
  have HC := Lib.hid (gpClip_any c w)
  rw [h.ok.same] at HC
  simp only [GC.val] at HC
  have HI := Lib.hid h
  obtain ⟨_, _, _, _, _, _, _, _⟩ := h.at8.cells
  have hbz : base ≤ w.heap.size := by have := h.at8.lt; have := h.bs; omega
  clear h
  go_enter Try.func16, Try.ntmps16
  go_wp2_with fail
  refine HC.out.mono ?_
  rintro e w2 ⟨rfl, hk2⟩
  have hI2 := HI.out.later hk2
  obtain ⟨_, _, _, _, _, _, _, _⟩ := hI2.at8.cells
  obtain ⟨_, _, _, _, _, _, _, _⟩ := hI2.at8.frees
  have ho3 := put4_only w2 gg (.int .i64 c.m) (.int .i64 c.t) (.int .i64 c.f) (.int .i64 c.a)
  have hX3 := at8_put4 hI2.at8 (.int .i64 c.m) (.int .i64 c.t) (.int .i64 c.f) (.int .i64 c.a)
  have hI3 := GIn.mk hI2.bs hX3 (hI2.own.keep (by rw [ho3.size]; exact Nat.le_refl _) (fun k cs hk _ => ho3.block k (fun e => hI2.apart (by rw [hk, e])))) hI2.ok hI2.len hI2.up hI2.gb hI2.nb hI2.ab
  have hb3 : Below base w _ := (hk2.mono hbz).trans (ho3.below hI2.bs)
  have hK3 : KeptG w _ := (keptG_below hk2).trans (keptG_only hI2.at8 ho3)
  go_upto_region 2 with fail
  generalize ((((w2.setCell ⟨gg, 0, none⟩ (.int .i64 c.m)).setCell ⟨gg, 1, none⟩ (.int .i64 c.t)).setCell ⟨gg, 2, none⟩ (.int .i64 c.f)).setCell ⟨gg, 3, none⟩ (.int .i64 c.a)) = w3 at hI3 hb3 hK3 ⊢
  clear ho3 hX3 hI2 hk2 HC HI
  obtain ⟨_, _, _, _, _, _, _, _⟩ := hI3.at8.cells
  obtain ⟨_, _, _, _, _, _, _, _⟩ := hI3.at8.frees
  go_wp2_with fail
  refine (gpAmong_q (-1099511627776) n 1099511627776 w3).mono ?_
  rintro e w4 ⟨rfl, rfl⟩
  have HNN := Lib.hid (show gAm (-1099511627776) n 1099511627776 = gpN n from rfl)
  rw [HNN.out]
  have hnb := gpN_bd n
  have HL := Lib.hid (gpFound_any hI3 (gpN n))
  have hlt : decide (gr < gpN n) = false := by simp; omega
  generalize hz : gpN n = z at *
  have HZZ := Lib.hid hz
  clear hz hI3
  go_wp2_with fail
  refine HL.out.mono ?_
  rintro e w6 ⟨rfl, ⟨v6, hI6⟩, hb6, hK6⟩
  have HF := Lib.hid hI6
  clear hI6
  go_wp2_with fail
  go_ret
  exact ⟨rfl, ⟨_, by rw [HZZ.out]; exact HF.out⟩, hb3.trans hb6, hK3.trans hK6⟩

end Go.Proofs.Ytdbmhgfdcdcgfaa
