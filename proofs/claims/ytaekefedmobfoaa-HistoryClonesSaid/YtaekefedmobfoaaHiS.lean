/- history: a call, of both sides (HiS). -/
import Derived.Test.YtaekefedmobfoaaHiQ
import Derived.Test.YtaekefedmobfoaaCrcD
import Derived.Laws.StructEq
namespace Go.Proofs.Ytaekefedmobfoaa
open Go.RowKit
set_option linter.unusedVariables false
set_option linter.unusedSimpArgs false
set_option maxRecDepth 100000 in
theorem hiRecEq (rs rt rp : Int) (rd : ByteArray) (w : World) : (binOp .eql 125 (.agg #[.int .i64 rs, .int .i64 rt, .int .i64 rp, .string rd]) (.agg #[.int .i64 rs, .int .i64 rt, .int .i64 rp, .string rd])).run Try.prog w = .ok (.bool true) w := by
  have hS : Try.prog.underlying 125 = some (.struct (Try.prog.fieldsOf 125)) := by kernel_rfl
  have hp : Try.prog.stoodInHeld 125 = false := by kernel_rfl
  rw [run_eql_struct, show (10000 : Nat) = 9999 + 1 from rfl, run_equalIn_agg w 9999 125 _ _ hS hp]
  simp only [Program.fieldsOf, Try.underlying125]
  go_simp

set_option maxRecDepth 100000 in
set_option maxHeartbeats 6400000 in
theorem hiDo1 {w : World} {base gh : Nat} {m t : Int} {v vx : Value} {l : List HR} {ag : Int} (h : HIn w base gh m t v l ag) (hx : OwnE w 0 125 4 vx l.length (hiV l)) (hnn : HiNn l) (hag : 0 ≤ ag ∧ ag ≤ 1000) (kd s p : Int) (d : ByteArray) (hd : d.size ≤ 9223372036854775807) (hk : kd = 1) :
    Calls Try.prog 25 #[.pointer (some ⟨gh, 0, none⟩), .agg #[.int .i64 (hiC m), .int .i64 (hiT t), .int .i64 ag, vx], .agg #[.int .i64 kd, .int .i64 s, .int .i64 p, .string d]] w fun e w' => ∃ v' vx', e = .returned (.tuple #[.agg #[.int .i64 (hiC m), .int .i64 (hiT t), .int .i64 (hiAgN (hiT t) s p l ag), vx'], .bool true]) ∧ HIn w' base gh m t v' (hiAgL (hiT t) s p l) (hiAgN (hiT t) s p l ag) ∧ OwnE w' 0 125 4 vx' (hiAgL (hiT t) s p l).length (hiV (hiAgL (hiT t) s p l)) ∧ Below base w w' ∧ KeptH w w' := by
  obtain ⟨xa, xc, rfl⟩ := hx.form4
  have hbz : base ≤ w.heap.size := by have := h.at4.lt; have := h.bs; omega
  have hsm := h.small
  have hup := h.up
  subst hk
  obtain ⟨cm, hcm⟩ : ∃ z, z = hiC m := ⟨_, rfl⟩
  obtain ⟨ct, hct⟩ : ∃ z, z = hiT t := ⟨_, rfl⟩
  have hcb := hiC_bd m
  have htb := hiT_bd t
  rw [← hcm] at hcb ⊢
  rw [← hct] at htb ⊢
  have HCM := Lib.hid hcm
  have HCT := Lib.hid hct
  clear hcm hct
  have hX0 := ((at4_new 49 w w.heap.size (.int .i64 cm) (.int .i64 ct) (.int .i64 ag) (.slice xa l.length xc) rfl).alloc (.cells #[.int .i64 1, .int .i64 s, .int .i64 p, .string d] 54)).alloc (.cells #[.int .i64 0, .int .i64 0, .int .i64 0, .slice none 0 0] 49)
  have hX1 := (at4_new 54 (w.alloc (.cells #[.int .i64 cm, .int .i64 ct, .int .i64 ag, .slice xa l.length xc] 49)) (w.heap.size + 1) (.int .i64 1) (.int .i64 s) (.int .i64 p) (.string d) (by simp)).alloc (.cells #[.int .i64 0, .int .i64 0, .int .i64 0, .slice none 0 0] 49)
  have hX2 := at4_new 49 ((w.alloc (.cells #[.int .i64 cm, .int .i64 ct, .int .i64 ag, .slice xa l.length xc] 49)).alloc (.cells #[.int .i64 1, .int .i64 s, .int .i64 p, .string d] 54)) (w.heap.size + 1 + 1) (.int .i64 0) (.int .i64 0) (.int .i64 0) (.slice none 0 0) (by simp)
  have hb : Below w.heap.size w (((w.alloc (.cells #[.int .i64 cm, .int .i64 ct, .int .i64 ag, .slice xa l.length xc] 49)).alloc (.cells #[.int .i64 1, .int .i64 s, .int .i64 p, .string d] 54)).alloc (.cells #[.int .i64 0, .int .i64 0, .int .i64 0, .slice none 0 0] 49)) := (((Below.refl _ _).alloc (Nat.le_refl _) _).alloc (by simp) _).alloc (by simp; omega) _
  go_enter Try.func25, Try.ntmps25
  go_upto_region 1 with fail
  generalize (((w.alloc (.cells #[.int .i64 cm, .int .i64 ct, .int .i64 ag, .slice xa l.length xc] 49)).alloc (.cells #[.int .i64 1, .int .i64 s, .int .i64 p, .string d] 54)).alloc (.cells #[.int .i64 0, .int .i64 0, .int .i64 0, .slice none 0 0] 49)) = w2 at *
  have hQ2 := h.later hb
  have hx2 := hx.later hb
  have hK2 := keptH_below hb
  generalize hg2 : w.heap.size + 1 + 1 = g2 at *
  generalize hg1 : w.heap.size + 1 = g1 at *
  generalize hg0 : w.heap.size = g0 at *
  have hle2 : g0 ≤ g2 := by omega
  have hne02 : g0 ≠ g2 := by omega
  have hne12 : g1 ≠ g2 := by omega
  have HG := Lib.hid hg0
  clear hg0 hg1 hg2 h hx
  have HNN := Lib.hid hnn
  clear hnn
  obtain ⟨_, _, _, _⟩ := hX0.cells
  obtain ⟨_, _, _, _⟩ := hX1.cells
  obtain ⟨_, _, _, _⟩ := hX2.cells
  obtain ⟨_, _, _, _⟩ := hX2.frees
  go_upto_region 7 with fail
  have HPu := Lib.hid (refHAgain_any cm ct ag s p hx2 hsm htb.2 ⟨hag.1, by omega⟩ hup HNN.out)
  have HPP := Lib.hid (fun W (v' : Value) (hQ : HIn W base gh m t v' l ag) => hiAgain_any hQ HNN.out s p ⟨hag.1, by omega⟩)
  rw [← HCT.out] at HPP
  generalize hLL : hiAgL ct s p l = LL at *
  generalize hAN : hiAgN ct s p l ag = an at *
  generalize (hiTo ct s p l).getD hiZ = rr at *
  generalize (hiTo ct s p l).isSome = b at *
  obtain ⟨rs, rt, rp, rd⟩ := rr
  simp only [HR.val] at HPu HPP
  have HLL := Lib.hid hLL
  have HAN := Lib.hid hAN
  clear hLL hAN
  go_wp2_with fail
  refine HPu.out.mono ?_
  rintro e w3 ⟨vy, rfl, hy3, hk3⟩
  obtain ⟨ay, cy, rfl⟩ := hy3.form4
  have hX0_3 := hX0.later hk3
  have hX1_3 := hX1.later hk3
  have hX2_3 := hX2.later hk3
  have hQ3 := hQ2.later hk3
  have hb3 := hb.trans (hk3.mono (Nat.le_of_lt hX0.lt))
  have hK3 := hK2.trans (keptH_below hk3)
  clear hX0 hX1 hX2 hQ2 hx2 hb hK2 hk3
  generalize hNL : LL.length = nL at *
  have HNL := Lib.hid hNL
  clear hNL
  have hal : Below w3.heap.size w3 ((w3.alloc (.cells #[.int .i64 cm, .int .i64 ct, .int .i64 an, .slice ay nL cy] 49)).alloc (.cells #[.int .i64 rs, .int .i64 rt, .int .i64 rp, .string rd] 125)) := ((Below.refl _ _).alloc (Nat.le_refl _) _).alloc (by simp) _
  have hY0 := (at4_new 49 w3 (w3.heap.size) (.int .i64 cm) (.int .i64 ct) (.int .i64 an) (.slice ay nL cy) rfl).alloc (.cells #[.int .i64 rs, .int .i64 rt, .int .i64 rp, .string rd] 125)
  have hY1 := at4_new 125 (w3.alloc (.cells #[.int .i64 cm, .int .i64 ct, .int .i64 an, .slice ay nL cy] 49)) (w3.heap.size + 1) (.int .i64 rs) (.int .i64 rt) (.int .i64 rp) (.string rd) (by simp)
  have hX1_4 := hX1_3.later hal
  have hX2_4 := hX2_3.later hal
  have hX0_4 := hX0_3.later hal
  have hQ4 := hQ3.later hal
  have hy4 := hy3.later hal
  have hgl := hX2_3.lt
  have hsz3 := hal.size
  have hb4 := hb3.trans (hal.mono (by omega))
  have hK4 := hK3.trans (keptH_below hal)
  go_upto_region 8 with fail
  generalize ((w3.alloc (.cells #[.int .i64 cm, .int .i64 ct, .int .i64 an, .slice ay nL cy] 49)).alloc (.cells #[.int .i64 rs, .int .i64 rt, .int .i64 rp, .string rd] 125)) = w4 at hX0_4 hX1_4 hX2_4 hQ4 hy4 hb4 hK4 hsz3 hY0 hY1 ⊢
  generalize hgz : w3.heap.size + 1 = gz at *
  generalize w3.heap.size = gy at *
  clear hal hX0_3 hX1_3 hX2_3 hQ3 hy3 hb3 hK3
  obtain ⟨_, _, _, _⟩ := hX0_4.cells
  obtain ⟨_, _, _, _⟩ := hX1_4.cells
  obtain ⟨_, _, _, _⟩ := hX2_4.cells
  obtain ⟨_, _, _, _⟩ := hX2_4.frees
  obtain ⟨_, _, _, _⟩ := hY0.cells
  obtain ⟨_, _, _, _⟩ := hY1.cells
  have HPs := Lib.hid (HPP.out _ _ hQ4)
  go_wp2_with fail
  refine HPs.out.mono ?_
  rintro e w5 ⟨rfl, ⟨v5, hQ5⟩, hk5, hK5⟩
  have hX2_5 := hX2_4.keptH hK5 (by decide) (by decide)
  have hX0_5 := hX0_4.keptH hK5 (by decide) (by decide)
  have hY0_5 := hY0.keptH hK5 (by decide) (by decide)
  have hY1_5 := hY1.keptH hK5 (by decide) (by decide)
  have hy5 := hy4.keptH hK5 (by decide) (by decide)
  have hb5 : Below base w w5 := (hb4.mono hbz).trans hk5
  have hK5' := hK4.trans hK5
  have hR := at4_new 64 w5 w5.heap.size (.int .i64 rs) (.int .i64 rt) (.int .i64 rp) (.string rd) rfl
  have hal : Below w5.heap.size w5 (w5.alloc (.cells #[.int .i64 rs, .int .i64 rt, .int .i64 rp, .string rd] 64)) := (Below.refl _ _).alloc (Nat.le_refl _) _
  have hX2_6 := hX2_5.later hal
  have hX0_6 := hX0_5.later hal
  have hY0_6 := hY0_5.later hal
  have hY1_6 := hY1_5.later hal
  have hQ6 := hQ5.later hal
  have hy6 := hy5.later hal
  have hgr : gh < w5.heap.size := hQ5.at4.lt
  have hgv : ∀ q, v5.ownBlock = some q → q < w5.heap.size := fun q hq => (hQ5.own.1.lt q hq).2
  have hb6 := hb5.trans (hal.mono (Nat.le_trans (by rw [HG.out]; exact hbz) hb5.size))
  have hK6 := hK5'.trans (keptH_below hal)
  have hgX : g2 < w5.heap.size := hX2_5.lt
  go_upto_region 9 with fail
  generalize (w5.alloc (.cells #[.int .i64 rs, .int .i64 rt, .int .i64 rp, .string rd] 64)) = w6 at hR hX2_6 hX0_6 hY0_6 hY1_6 hQ6 hy6 hb6 hK6 ⊢
  generalize w5.heap.size = gr at hR hgr hgv hgX ⊢
  clear hal hX2_5 hX0_5 hY0_5 hY1_5 hQ5 hy5 hb5 hK5' hK5 hX2_4 hX0_4 hX1_4 hY0 hY1 hQ4 hy4 hb4 hK4
  obtain ⟨_, _, _, _⟩ := hR.cells
  obtain ⟨_, _, _, _⟩ := hX0_6.cells
  obtain ⟨_, _, _, _⟩ := hY0_6.cells
  obtain ⟨_, _, _, _⟩ := hY1_6.cells
  obtain ⟨_, _, _, _⟩ := hX2_6.cells
  obtain ⟨_, _, _, _⟩ := hX2_6.frees
  have hEq := hiRecEq rs rt rp rd
  first | go_region_law (fail) | fail "region"
  all_goals
    have ho8 := put4_only w6 g2 (.int .i64 cm) (.int .i64 ct) (.int .i64 an) (.slice ay nL cy)
    have hZ := at4_put hX2_6 (.int .i64 cm) (.int .i64 ct) (.int .i64 an) (.slice ay nL cy)
    have hQ8 := hQ6.onlyG hX2_6 ho8 (by decide) (by decide)
    have hy8 := hy6.onlyH hX2_6 ho8 (by decide)
    have hb8 := hb6.trans (ho8.below (Nat.le_trans hbz hle2))
    have hK8 := keptH_onlyG ho8 hK6 (by rw [HG.out]; exact hle2)
    go_wp2_with fail
    go_simp
    generalize ((((w6.setCell ⟨g2, 0, none⟩ (.int .i64 cm)).setCell ⟨g2, 1, none⟩ (.int .i64 ct)).setCell ⟨g2, 2, none⟩ (.int .i64 an)).setCell ⟨g2, 3, none⟩ (.slice ay nL cy)) = w8 at hZ hQ8 hy8 hb8 hK8 ⊢
    obtain ⟨d0, d1, d2, d3⟩ := hZ.cells
    clear ho8
    refine bodyPost_ret (v := .tuple #[.agg #[.int .i64 cm, .int .i64 ct, .int .i64 an, (.slice ay nL cy)], .bool true]) (by simp [results, Try.results25, go_sem, d0, d1, d2, d3]) rfl ⟨v5, (.slice ay nL cy), by rw [HAN.out], by rw [HLL.out, HAN.out]; exact hQ8.drew, by rw [HLL.out, HNL.out]; exact hy8.drew, hb8.drew, hK8.drew⟩
set_option maxRecDepth 100000 in
set_option maxHeartbeats 6400000 in
theorem hiDo2 {w : World} {base gh : Nat} {m t : Int} {v vx : Value} {l : List HR} {ag : Int} (h : HIn w base gh m t v l ag) (hx : OwnE w 0 125 4 vx l.length (hiV l)) (hnn : HiNn l) (hag : 0 ≤ ag ∧ ag ≤ 1000) (kd s p : Int) (d : ByteArray) (hd : d.size ≤ 9223372036854775807) (hk : kd = 2) :
    Calls Try.prog 25 #[.pointer (some ⟨gh, 0, none⟩), .agg #[.int .i64 (hiC m), .int .i64 (hiT t), .int .i64 ag, vx], .agg #[.int .i64 kd, .int .i64 s, .int .i64 p, .string d]] w fun e w' => ∃ v' vx', e = .returned (.tuple #[.agg #[.int .i64 (hiC m), .int .i64 (hiT t), .int .i64 ag, vx'], .bool true]) ∧ HIn w' base gh m t v' l ag ∧ OwnE w' 0 125 4 vx' l.length (hiV l) ∧ Below base w w' ∧ KeptH w w' := by
  obtain ⟨xa, xc, rfl⟩ := hx.form4
  have hbz : base ≤ w.heap.size := by have := h.at4.lt; have := h.bs; omega
  have hsm := h.small
  have hup := h.up
  subst hk
  obtain ⟨cm, hcm⟩ : ∃ z, z = hiC m := ⟨_, rfl⟩
  obtain ⟨ct, hct⟩ : ∃ z, z = hiT t := ⟨_, rfl⟩
  have hcb := hiC_bd m
  have htb := hiT_bd t
  rw [← hcm] at hcb ⊢
  rw [← hct] at htb ⊢
  have HCM := Lib.hid hcm
  have HCT := Lib.hid hct
  clear hcm hct
  have hX0 := ((at4_new 49 w w.heap.size (.int .i64 cm) (.int .i64 ct) (.int .i64 ag) (.slice xa l.length xc) rfl).alloc (.cells #[.int .i64 2, .int .i64 s, .int .i64 p, .string d] 54)).alloc (.cells #[.int .i64 0, .int .i64 0, .int .i64 0, .slice none 0 0] 49)
  have hX1 := (at4_new 54 (w.alloc (.cells #[.int .i64 cm, .int .i64 ct, .int .i64 ag, .slice xa l.length xc] 49)) (w.heap.size + 1) (.int .i64 2) (.int .i64 s) (.int .i64 p) (.string d) (by simp)).alloc (.cells #[.int .i64 0, .int .i64 0, .int .i64 0, .slice none 0 0] 49)
  have hX2 := at4_new 49 ((w.alloc (.cells #[.int .i64 cm, .int .i64 ct, .int .i64 ag, .slice xa l.length xc] 49)).alloc (.cells #[.int .i64 2, .int .i64 s, .int .i64 p, .string d] 54)) (w.heap.size + 1 + 1) (.int .i64 0) (.int .i64 0) (.int .i64 0) (.slice none 0 0) (by simp)
  have hb : Below w.heap.size w (((w.alloc (.cells #[.int .i64 cm, .int .i64 ct, .int .i64 ag, .slice xa l.length xc] 49)).alloc (.cells #[.int .i64 2, .int .i64 s, .int .i64 p, .string d] 54)).alloc (.cells #[.int .i64 0, .int .i64 0, .int .i64 0, .slice none 0 0] 49)) := (((Below.refl _ _).alloc (Nat.le_refl _) _).alloc (by simp) _).alloc (by simp; omega) _
  go_enter Try.func25, Try.ntmps25
  go_upto_region 1 with fail
  generalize (((w.alloc (.cells #[.int .i64 cm, .int .i64 ct, .int .i64 ag, .slice xa l.length xc] 49)).alloc (.cells #[.int .i64 2, .int .i64 s, .int .i64 p, .string d] 54)).alloc (.cells #[.int .i64 0, .int .i64 0, .int .i64 0, .slice none 0 0] 49)) = w2 at *
  have hQ2 := h.later hb
  have hx2 := hx.later hb
  have hK2 := keptH_below hb
  generalize hg2 : w.heap.size + 1 + 1 = g2 at *
  generalize hg1 : w.heap.size + 1 = g1 at *
  generalize hg0 : w.heap.size = g0 at *
  have hle2 : g0 ≤ g2 := by omega
  have hne02 : g0 ≠ g2 := by omega
  have hne12 : g1 ≠ g2 := by omega
  have HG := Lib.hid hg0
  clear hg0 hg1 hg2 h hx
  have HNN := Lib.hid hnn
  clear hnn
  obtain ⟨_, _, _, _⟩ := hX0.cells
  obtain ⟨_, _, _, _⟩ := hX1.cells
  obtain ⟨_, _, _, _⟩ := hX2.cells
  obtain ⟨_, _, _, _⟩ := hX2.frees
  go_upto_region 11 with fail
  have HPu := Lib.hid (refHGet_any cm ct ag s hx2 (by omega))
  have HPP := Lib.hid (fun W (v' : Value) (hQ : HIn W base gh m t v' l ag) => hiGet_any hQ s)
  generalize (hiFind s l).getD hiZ = rr at *
  generalize (hiFind s l).isSome = b at *
  obtain ⟨rs, rt, rp, rd⟩ := rr
  simp only [HR.val] at HPu HPP
  have hy2 := hx2
  go_wp2_with fail
  refine HPu.out.mono ?_
  rintro e w3 ⟨rfl, hk3⟩
  have hX0_3 := hX0.later hk3
  have hX1_3 := hX1.later hk3
  have hX2_3 := hX2.later hk3
  have hQ3 := hQ2.later hk3
  have hy3 := hx2.later hk3
  have hb3 := hb.trans (hk3.mono (Nat.le_of_lt hX0.lt))
  have hK3 := hK2.trans (keptH_below hk3)
  clear hX0 hX1 hX2 hQ2 hx2 hb hK2 hk3
  have hal : Below w3.heap.size w3 (w3.alloc (.cells #[.int .i64 rs, .int .i64 rt, .int .i64 rp, .string rd] 125)) := (Below.refl _ _).alloc (Nat.le_refl _) _
  have hY0 := at4_new 125 w3 (w3.heap.size) (.int .i64 rs) (.int .i64 rt) (.int .i64 rp) (.string rd) rfl
  have hX1_4 := hX1_3.later hal
  have hX2_4 := hX2_3.later hal
  have hX0_4 := hX0_3.later hal
  have hQ4 := hQ3.later hal
  have hy4 := hy3.later hal
  have hgl := hX2_3.lt
  have hsz3 := hal.size
  have hb4 := hb3.trans (hal.mono (by omega))
  have hK4 := hK3.trans (keptH_below hal)
  go_upto_region 12 with fail
  generalize (w3.alloc (.cells #[.int .i64 rs, .int .i64 rt, .int .i64 rp, .string rd] 125)) = w4 at hX0_4 hX1_4 hX2_4 hQ4 hy4 hb4 hK4 hsz3 hY0 ⊢
  generalize w3.heap.size = gy at *
  clear hal hX0_3 hX1_3 hX2_3 hQ3 hy3 hb3 hK3
  obtain ⟨_, _, _, _⟩ := hX0_4.cells
  obtain ⟨_, _, _, _⟩ := hX1_4.cells
  obtain ⟨_, _, _, _⟩ := hX2_4.cells
  obtain ⟨_, _, _, _⟩ := hX2_4.frees
  obtain ⟨_, _, _, _⟩ := hY0.cells
  have HPs := Lib.hid (HPP.out _ _ hQ4)
  go_wp2_with fail
  refine HPs.out.mono ?_
  rintro e w5 ⟨rfl, hk5⟩
  have hQ5 := hQ4.later hk5
  have hK5 := keptH_below hk5
  have hX2_5 := hX2_4.keptH hK5 (by decide) (by decide)
  have hX0_5 := hX0_4.keptH hK5 (by decide) (by decide)
  have hY0_5 := hY0.keptH hK5 (by decide) (by decide)
  have hy5 := hy4.keptH hK5 (by decide) (by decide)
  have hb5 : Below base w w5 := (hb4.mono hbz).trans (hk5.mono (by have := hb4.size; have := HG.out; omega))
  have hK5' := hK4.trans hK5
  have hR := at4_new 64 w5 w5.heap.size (.int .i64 rs) (.int .i64 rt) (.int .i64 rp) (.string rd) rfl
  have hal : Below w5.heap.size w5 (w5.alloc (.cells #[.int .i64 rs, .int .i64 rt, .int .i64 rp, .string rd] 64)) := (Below.refl _ _).alloc (Nat.le_refl _) _
  have hX2_6 := hX2_5.later hal
  have hX0_6 := hX0_5.later hal
  have hY0_6 := hY0_5.later hal
  have hQ6 := hQ5.later hal
  have hy6 := hy5.later hal
  have hgr : gh < w5.heap.size := hQ5.at4.lt
  have hgv : ∀ q, v.ownBlock = some q → q < w5.heap.size := fun q hq => (hQ5.own.1.lt q hq).2
  have hb6 := hb5.trans (hal.mono (Nat.le_trans (by rw [HG.out]; exact hbz) hb5.size))
  have hK6 := hK5'.trans (keptH_below hal)
  have hgX : g2 < w5.heap.size := hX2_5.lt
  go_upto_region 13 with fail
  generalize (w5.alloc (.cells #[.int .i64 rs, .int .i64 rt, .int .i64 rp, .string rd] 64)) = w6 at hR hX2_6 hX0_6 hY0_6 hQ6 hy6 hb6 hK6 ⊢
  generalize w5.heap.size = gr at hR hgr hgv hgX ⊢
  clear hal hX2_5 hX0_5 hY0_5 hQ5 hy5 hb5 hK5' hK5 hX2_4 hX0_4 hX1_4 hY0 hQ4 hy4 hb4 hK4
  obtain ⟨_, _, _, _⟩ := hR.cells
  obtain ⟨_, _, _, _⟩ := hX0_6.cells
  obtain ⟨_, _, _, _⟩ := hY0_6.cells
  obtain ⟨_, _, _, _⟩ := hX2_6.cells
  obtain ⟨_, _, _, _⟩ := hX2_6.frees
  have hEq := hiRecEq rs rt rp rd
  first | go_region_law (fail) | fail "region"
  all_goals
    have ho8 := put4_only w6 g2 (.int .i64 cm) (.int .i64 ct) (.int .i64 ag) (.slice xa l.length xc)
    have hZ := at4_put hX2_6 (.int .i64 cm) (.int .i64 ct) (.int .i64 ag) (.slice xa l.length xc)
    have hQ8 := hQ6.onlyG hX2_6 ho8 (by decide) (by decide)
    have hy8 := hy6.onlyH hX2_6 ho8 (by decide)
    have hb8 := hb6.trans (ho8.below (Nat.le_trans hbz hle2))
    have hK8 := keptH_onlyG ho8 hK6 (by rw [HG.out]; exact hle2)
    go_wp2_with fail
    go_simp
    generalize ((((w6.setCell ⟨g2, 0, none⟩ (.int .i64 cm)).setCell ⟨g2, 1, none⟩ (.int .i64 ct)).setCell ⟨g2, 2, none⟩ (.int .i64 ag)).setCell ⟨g2, 3, none⟩ (.slice xa l.length xc)) = w8 at hZ hQ8 hy8 hb8 hK8 ⊢
    obtain ⟨d0, d1, d2, d3⟩ := hZ.cells
    clear ho8
    refine bodyPost_ret (v := .tuple #[.agg #[.int .i64 cm, .int .i64 ct, .int .i64 ag, (.slice xa l.length xc)], .bool true]) (by simp [results, Try.results25, go_sem, d0, d1, d2, d3]) rfl ⟨v, (.slice xa l.length xc), rfl, hQ8.drew, hy8.drew, hb8.drew, hK8.drew⟩
end Go.Proofs.Ytaekefedmobfoaa
