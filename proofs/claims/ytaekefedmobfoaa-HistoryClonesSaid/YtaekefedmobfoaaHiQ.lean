/- history: a call, of both sides (HiQ). -/
import Derived.Test.YtaekefedmobfoaaHiP
import Derived.Test.YtaekefedmobfoaaCrcD
import Derived.Laws.StructEq
namespace Go.Proofs.Ytaekefedmobfoaa
open Go.RowKit
set_option linter.unusedVariables false
set_option linter.unusedSimpArgs false
theorem HIn.onlyG {W W' : World} {base gh g : Nat} {T : TypeId} {m t : Int} {v : Value} {l : List HR} {ag : Int} {c0 c1 c2 c3 : Value} (h : HIn W base gh m t v l ag) (x : At4 T W g c0 c1 c2 c3) (ho : Only g W W') (h1 : T ≠ 123) (h2 : T ≠ 64) : HIn W' base gh m t v l ag :=
  ⟨h.bs, h.at4.only (fun e => by
    subst e
    have h5 := h.at4
    unfold At4 at x h5
    rw [x] at h5
    simp only [Option.some.injEq, Obj.cells.injEq] at h5
    exact h1 h5.2.1) ho, h.own.onlyH x ho (fun e => h2 e.symm), h.len, h.up⟩
theorem keptH_onlyG {w W W' : World} {g : Nat} (ho : Only g W W') (hk : KeptH w W) (hg : w.heap.size ≤ g) : KeptH w W' :=
  ⟨by have := hk.size; rw [ho.size]; exact this, fun k o h h1 => by
    have hlt := lt_of_obj h
    rw [ho.block k (by omega)]
    exact hk.block k o h h1⟩
/-- What is kept behind a call. -/
def hiDoL (M T : Int) (kd s p : Int) (d : ByteArray) (l : List HR) : List HR := if kd = 0 then hiPut M l ⟨s, 0, p, cutB d 20⟩ else if kd = 1 then hiAgL T s p l else if kd = 2 then l else hiFg s l
def hiDoN (T : Int) (kd s p : Int) (l : List HR) (ag : Int) : Int := if kd = 1 then hiAgN T s p l ag else ag
set_option maxRecDepth 100000 in
set_option maxHeartbeats 6400000 in
theorem hiDo0 {w : World} {base gh : Nat} {m t : Int} {v vx : Value} {l : List HR} {ag : Int} (h : HIn w base gh m t v l ag) (hx : OwnE w 0 125 4 vx l.length (hiV l)) (hnn : HiNn l) (hag : 0 ≤ ag ∧ ag ≤ 1000) (kd s p : Int) (d : ByteArray) (hd : d.size ≤ 9223372036854775807) (hk : kd = 0) :
    Calls Try.prog 25 #[.pointer (some ⟨gh, 0, none⟩), .agg #[.int .i64 (hiC m), .int .i64 (hiT t), .int .i64 ag, vx], .agg #[.int .i64 kd, .int .i64 s, .int .i64 p, .string d]] w fun e w' => ∃ v' vx', e = .returned (.tuple #[.agg #[.int .i64 (hiC m), .int .i64 (hiT t), .int .i64 ag, vx'], .bool true]) ∧ HIn w' base gh m t v' (hiPut (hiC m) l ⟨s, 0, p, cutB d 20⟩) ag ∧ OwnE w' 0 125 4 vx' (hiPut (hiC m) l ⟨s, 0, p, cutB d 20⟩).length (hiV (hiPut (hiC m) l ⟨s, 0, p, cutB d 20⟩)) ∧ Below base w w' ∧ KeptH w w' := by
  obtain ⟨xa, xc, rfl⟩ := hx.form4
  have hbz : base ≤ w.heap.size := by have := h.at4.lt; have := h.bs; omega
  have hsm := h.small
  have hup := h.up
  subst hk
  obtain ⟨cm, hcm⟩ : ∃ z, z = hiC m := ⟨_, rfl⟩
  obtain ⟨ct, hct⟩ : ∃ z, z = hiT t := ⟨_, rfl⟩
  have hcb := hiC_bd m
  have htb := hiT_bd t
  rw [← hcm] at hcb ⊢
  rw [← hct] at htb ⊢
  have HCM := Lib.hid hcm
  have HCT := Lib.hid hct
  clear hcm hct
  have hX0 := ((at4_new 49 w w.heap.size (.int .i64 cm) (.int .i64 ct) (.int .i64 ag) (.slice xa l.length xc) rfl).alloc (.cells #[.int .i64 0, .int .i64 s, .int .i64 p, .string d] 54)).alloc (.cells #[.int .i64 0, .int .i64 0, .int .i64 0, .slice none 0 0] 49)
  have hX1 := (at4_new 54 (w.alloc (.cells #[.int .i64 cm, .int .i64 ct, .int .i64 ag, .slice xa l.length xc] 49)) (w.heap.size + 1) (.int .i64 0) (.int .i64 s) (.int .i64 p) (.string d) (by simp)).alloc (.cells #[.int .i64 0, .int .i64 0, .int .i64 0, .slice none 0 0] 49)
  have hX2 := at4_new 49 ((w.alloc (.cells #[.int .i64 cm, .int .i64 ct, .int .i64 ag, .slice xa l.length xc] 49)).alloc (.cells #[.int .i64 0, .int .i64 s, .int .i64 p, .string d] 54)) (w.heap.size + 1 + 1) (.int .i64 0) (.int .i64 0) (.int .i64 0) (.slice none 0 0) (by simp)
  have hb : Below w.heap.size w (((w.alloc (.cells #[.int .i64 cm, .int .i64 ct, .int .i64 ag, .slice xa l.length xc] 49)).alloc (.cells #[.int .i64 0, .int .i64 s, .int .i64 p, .string d] 54)).alloc (.cells #[.int .i64 0, .int .i64 0, .int .i64 0, .slice none 0 0] 49)) := (((Below.refl _ _).alloc (Nat.le_refl _) _).alloc (by simp) _).alloc (by simp; omega) _
  go_enter Try.func25, Try.ntmps25
  go_upto_region 1 with fail
  generalize (((w.alloc (.cells #[.int .i64 cm, .int .i64 ct, .int .i64 ag, .slice xa l.length xc] 49)).alloc (.cells #[.int .i64 0, .int .i64 s, .int .i64 p, .string d] 54)).alloc (.cells #[.int .i64 0, .int .i64 0, .int .i64 0, .slice none 0 0] 49)) = w2 at *
  have hQ2 := h.later hb
  have hx2 := hx.later hb
  have hK2 := keptH_below hb
  generalize hg2 : w.heap.size + 1 + 1 = g2 at *
  generalize hg1 : w.heap.size + 1 = g1 at *
  generalize hg0 : w.heap.size = g0 at *
  have hle2 : g0 ≤ g2 := by omega
  have hne02 : g0 ≠ g2 := by omega
  have hne12 : g1 ≠ g2 := by omega
  have HG := Lib.hid hg0
  clear hg0 hg1 hg2 h hx
  have HNN := Lib.hid hnn
  clear hnn
  obtain ⟨_, _, _, _⟩ := hX0.cells
  obtain ⟨_, _, _, _⟩ := hX1.cells
  obtain ⟨_, _, _, _⟩ := hX2.cells
  obtain ⟨_, _, _, _⟩ := hX2.frees
  go_upto_region 3 with fail
  go_wp2_with fail
  refine (cut_any d 20 w2 (by omega) (by omega)).mono ?_
  rintro e w2' ⟨rfl, hq⟩
  subst hq
  have HPu := Lib.hid (refHPut_any cm ct ag s p (cutB d 20) hx2 hsm hcb)
  have HPP := Lib.hid (fun W (v' : Value) (hQ : HIn W base gh m t v' l ag) => hiPut_any hQ s p (cutB d 20))
  rw [← HCM.out] at HPP
  generalize hLL : hiPut cm l ⟨s, 0, p, cutB d 20⟩ = LL at *
  have HLL := Lib.hid hLL
  generalize hSD : cutB d 20 = sd at *
  have HSD := Lib.hid hSD
  clear hLL hSD
  go_wp2_with fail
  refine HPu.out.mono ?_
  rintro e w3 ⟨vy, rfl, hy3, hk3⟩
  obtain ⟨ay, cy, rfl⟩ := hy3.form4
  have hX0_3 := hX0.later hk3
  have hX1_3 := hX1.later hk3
  have hX2_3 := hX2.later hk3
  have hQ3 := hQ2.later hk3
  have hb3 := hb.trans (hk3.mono (Nat.le_of_lt hX0.lt))
  have hK3 := hK2.trans (keptH_below hk3)
  clear hX0 hX1 hX2 hQ2 hx2 hb hK2 hk3
  generalize hNL : LL.length = nL at *
  have HNL := Lib.hid hNL
  clear hNL
  have hal : Below w3.heap.size w3 (w3.alloc (.cells #[.int .i64 cm, .int .i64 ct, .int .i64 ag, .slice ay nL cy] 49)) := (Below.refl _ _).alloc (Nat.le_refl _) _
  have hY0 := at4_new 49 w3 (w3.heap.size) (.int .i64 cm) (.int .i64 ct) (.int .i64 ag) (.slice ay nL cy) rfl
  have hX1_4 := hX1_3.later hal
  have hX2_4 := hX2_3.later hal
  have hX0_4 := hX0_3.later hal
  have hQ4 := hQ3.later hal
  have hy4 := hy3.later hal
  have hgl := hX2_3.lt
  have hsz3 := hal.size
  have hb4 := hb3.trans (hal.mono (by omega))
  have hK4 := hK3.trans (keptH_below hal)
  go_upto_region 5 with fail
  generalize (w3.alloc (.cells #[.int .i64 cm, .int .i64 ct, .int .i64 ag, .slice ay nL cy] 49)) = w4 at hX0_4 hX1_4 hX2_4 hQ4 hy4 hb4 hK4 hsz3 hY0 ⊢
  generalize w3.heap.size = gy at *
  clear hal hX0_3 hX1_3 hX2_3 hQ3 hy3 hb3 hK3
  obtain ⟨_, _, _, _⟩ := hX0_4.cells
  obtain ⟨_, _, _, _⟩ := hX1_4.cells
  obtain ⟨_, _, _, _⟩ := hX2_4.cells
  obtain ⟨_, _, _, _⟩ := hX2_4.frees
  obtain ⟨_, _, _, _⟩ := hY0.cells
  have HPs := Lib.hid (HPP.out _ _ hQ4.drew)
  generalize hiOk s l = ok at *
  go_region_with (first | (go_at_call 30; refine HPs.out.mono ?_; rintro e w7 ⟨rfl, ⟨v7, hQ7⟩, hk7, hK7, _⟩; have hY7 := hY0.drew.keptH hK7 (by decide) (by decide); have hX2_7 := hX2_4.drew.keptH hK7 (by decide) (by decide); obtain ⟨_, _, _, _⟩ := hY7.cells; obtain ⟨_, _, _, _⟩ := hX2_7.frees; obtain ⟨_, _, _, _⟩ := hX2_7.cells))
  all_goals
    have ho8 := put4_only w7 g2 (.int .i64 cm) (.int .i64 ct) (.int .i64 ag) (.slice ay nL cy)
    have hZ := at4_put hX2_7 (.int .i64 cm) (.int .i64 ct) (.int .i64 ag) (.slice ay nL cy)
    have hQ8 := hQ7.onlyG hX2_7 ho8 (by decide) (by decide)
    have hy8 := (hy4.drew.keptH hK7 (by decide) (by decide)).onlyH hX2_7 ho8 (by decide)
    have hb8 := ((hb4.mono hbz).drew.trans hk7).trans (ho8.below (Nat.le_trans hbz hle2))
    have hK8 := keptH_onlyG ho8 (hK4.drew.trans hK7) (by rw [HG.out]; exact hle2)
    obtain ⟨d0, d1, d2, d3⟩ := hZ.cells
    go_wp2_with fail
    refine bodyPost_ret (v := .tuple #[.agg #[.int .i64 cm, .int .i64 ct, .int .i64 ag, .slice ay nL cy], .bool true]) (by simp [results, Try.results25, go_sem, d0, d1, d2, d3]) rfl ⟨v7, _, rfl, by rw [HSD.out, HLL.out]; exact hQ8, by rw [HSD.out, HLL.out, HNL.out]; exact hy8, hb8, hK8⟩
set_option maxRecDepth 100000 in
set_option maxHeartbeats 6400000 in
theorem hiDo3 {w : World} {base gh : Nat} {m t : Int} {v vx : Value} {l : List HR} {ag : Int} (h : HIn w base gh m t v l ag) (hx : OwnE w 0 125 4 vx l.length (hiV l)) (hnn : HiNn l) (hag : 0 ≤ ag ∧ ag ≤ 1000) (kd s p : Int) (d : ByteArray) (hd : d.size ≤ 9223372036854775807) (hk : kd ≠ 0 ∧ kd ≠ 1 ∧ kd ≠ 2) :
    Calls Try.prog 25 #[.pointer (some ⟨gh, 0, none⟩), .agg #[.int .i64 (hiC m), .int .i64 (hiT t), .int .i64 ag, vx], .agg #[.int .i64 kd, .int .i64 s, .int .i64 p, .string d]] w fun e w' => ∃ v' vx', e = .returned (.tuple #[.agg #[.int .i64 (hiC m), .int .i64 (hiT t), .int .i64 ag, vx'], .bool true]) ∧ HIn w' base gh m t v' (hiFg s l) ag ∧ OwnE w' 0 125 4 vx' (hiFg s l).length (hiV (hiFg s l)) ∧ Below base w w' ∧ KeptH w w' := by
  obtain ⟨xa, xc, rfl⟩ := hx.form4
  have hbz : base ≤ w.heap.size := by have := h.at4.lt; have := h.bs; omega
  have hsm := h.small
  have hup := h.up
  obtain ⟨hk0, hk1, hk2⟩ := hk
  have hd0 : (kd == 0) = false := by simpa using hk0
  have hd1 : (kd == 1) = false := by simpa using hk1
  have hd2 : (kd == 2) = false := by simpa using hk2
  clear hk0 hk1 hk2
  obtain ⟨cm, hcm⟩ : ∃ z, z = hiC m := ⟨_, rfl⟩
  obtain ⟨ct, hct⟩ : ∃ z, z = hiT t := ⟨_, rfl⟩
  have hcb := hiC_bd m
  have htb := hiT_bd t
  rw [← hcm] at hcb ⊢
  rw [← hct] at htb ⊢
  have HCM := Lib.hid hcm
  have HCT := Lib.hid hct
  clear hcm hct
  have hX0 := ((at4_new 49 w w.heap.size (.int .i64 cm) (.int .i64 ct) (.int .i64 ag) (.slice xa l.length xc) rfl).alloc (.cells #[.int .i64 kd, .int .i64 s, .int .i64 p, .string d] 54)).alloc (.cells #[.int .i64 0, .int .i64 0, .int .i64 0, .slice none 0 0] 49)
  have hX1 := (at4_new 54 (w.alloc (.cells #[.int .i64 cm, .int .i64 ct, .int .i64 ag, .slice xa l.length xc] 49)) (w.heap.size + 1) (.int .i64 kd) (.int .i64 s) (.int .i64 p) (.string d) (by simp)).alloc (.cells #[.int .i64 0, .int .i64 0, .int .i64 0, .slice none 0 0] 49)
  have hX2 := at4_new 49 ((w.alloc (.cells #[.int .i64 cm, .int .i64 ct, .int .i64 ag, .slice xa l.length xc] 49)).alloc (.cells #[.int .i64 kd, .int .i64 s, .int .i64 p, .string d] 54)) (w.heap.size + 1 + 1) (.int .i64 0) (.int .i64 0) (.int .i64 0) (.slice none 0 0) (by simp)
  have hb : Below w.heap.size w (((w.alloc (.cells #[.int .i64 cm, .int .i64 ct, .int .i64 ag, .slice xa l.length xc] 49)).alloc (.cells #[.int .i64 kd, .int .i64 s, .int .i64 p, .string d] 54)).alloc (.cells #[.int .i64 0, .int .i64 0, .int .i64 0, .slice none 0 0] 49)) := (((Below.refl _ _).alloc (Nat.le_refl _) _).alloc (by simp) _).alloc (by simp; omega) _
  go_enter Try.func25, Try.ntmps25
  go_upto_region 1 with fail
  generalize (((w.alloc (.cells #[.int .i64 cm, .int .i64 ct, .int .i64 ag, .slice xa l.length xc] 49)).alloc (.cells #[.int .i64 kd, .int .i64 s, .int .i64 p, .string d] 54)).alloc (.cells #[.int .i64 0, .int .i64 0, .int .i64 0, .slice none 0 0] 49)) = w2 at *
  have hQ2 := h.later hb
  have hx2 := hx.later hb
  have hK2 := keptH_below hb
  generalize hg2 : w.heap.size + 1 + 1 = g2 at *
  generalize hg1 : w.heap.size + 1 = g1 at *
  generalize hg0 : w.heap.size = g0 at *
  have hle2 : g0 ≤ g2 := by omega
  have hne02 : g0 ≠ g2 := by omega
  have hne12 : g1 ≠ g2 := by omega
  have HG := Lib.hid hg0
  clear hg0 hg1 hg2 h hx
  have HNN := Lib.hid hnn
  clear hnn
  obtain ⟨_, _, _, _⟩ := hX0.cells
  obtain ⟨_, _, _, _⟩ := hX1.cells
  obtain ⟨_, _, _, _⟩ := hX2.cells
  obtain ⟨_, _, _, _⟩ := hX2.frees
  go_upto_region 14 with fail
  have HPu := Lib.hid (refHForget_any cm ct ag s hx2 (by omega))
  have HPP := Lib.hid (fun W (v' : Value) (hQ : HIn W base gh m t v' l ag) => hiForget_any hQ s)
  generalize hLL : hiFg s l = LL at *
  have HLL := Lib.hid hLL
  clear hLL
  go_wp2_with fail
  refine HPu.out.mono ?_
  rintro e w3 ⟨vy, rfl, hy3, hk3⟩
  obtain ⟨ay, cy, rfl⟩ := hy3.form4
  have hX0_3 := hX0.later hk3
  have hX1_3 := hX1.later hk3
  have hX2_3 := hX2.later hk3
  have hQ3 := hQ2.later hk3
  have hb3 := hb.trans (hk3.mono (Nat.le_of_lt hX0.lt))
  have hK3 := hK2.trans (keptH_below hk3)
  clear hX0 hX1 hX2 hQ2 hx2 hb hK2 hk3
  generalize hNL : LL.length = nL at *
  have HNL := Lib.hid hNL
  clear hNL
  have hal : Below w3.heap.size w3 (w3.alloc (.cells #[.int .i64 cm, .int .i64 ct, .int .i64 ag, .slice ay nL cy] 49)) := (Below.refl _ _).alloc (Nat.le_refl _) _
  have hY0 := at4_new 49 w3 (w3.heap.size) (.int .i64 cm) (.int .i64 ct) (.int .i64 ag) (.slice ay nL cy) rfl
  have hX1_4 := hX1_3.later hal
  have hX2_4 := hX2_3.later hal
  have hX0_4 := hX0_3.later hal
  have hQ4 := hQ3.later hal
  have hy4 := hy3.later hal
  have hgl := hX2_3.lt
  have hsz3 := hal.size
  have hb4 := hb3.trans (hal.mono (by omega))
  have hK4 := hK3.trans (keptH_below hal)
  go_upto_region 15 with fail
  generalize (w3.alloc (.cells #[.int .i64 cm, .int .i64 ct, .int .i64 ag, .slice ay nL cy] 49)) = w4 at hX0_4 hX1_4 hX2_4 hQ4 hy4 hb4 hK4 hsz3 hY0 ⊢
  generalize w3.heap.size = gy at *
  clear hal hX0_3 hX1_3 hX2_3 hQ3 hy3 hb3 hK3
  obtain ⟨_, _, _, _⟩ := hX0_4.cells
  obtain ⟨_, _, _, _⟩ := hX1_4.cells
  obtain ⟨_, _, _, _⟩ := hX2_4.cells
  obtain ⟨_, _, _, _⟩ := hX2_4.frees
  obtain ⟨_, _, _, _⟩ := hY0.cells
  have HPs := Lib.hid (HPP.out _ _ hQ4.drew)
  generalize (l.length : Int) - nL = ok at *
  go_region_with (first | (go_at_call 65; refine HPs.out.mono ?_; rintro e w7 ⟨rfl, ⟨v7, hQ7⟩, hk7, hK7⟩; have hY7 := hY0.drew.keptH hK7 (by decide) (by decide); have hX2_7 := hX2_4.drew.keptH hK7 (by decide) (by decide); obtain ⟨_, _, _, _⟩ := hY7.cells; obtain ⟨_, _, _, _⟩ := hX2_7.frees; obtain ⟨_, _, _, _⟩ := hX2_7.cells))
  all_goals
    have ho8 := put4_only w7 g2 (.int .i64 cm) (.int .i64 ct) (.int .i64 ag) (.slice ay nL cy)
    have hZ := at4_put hX2_7 (.int .i64 cm) (.int .i64 ct) (.int .i64 ag) (.slice ay nL cy)
    have hQ8 := hQ7.onlyG hX2_7 ho8 (by decide) (by decide)
    have hy8 := (hy4.drew.keptH hK7 (by decide) (by decide)).onlyH hX2_7 ho8 (by decide)
    have hb8 := ((hb4.mono hbz).drew.trans hk7).trans (ho8.below (Nat.le_trans hbz hle2))
    have hK8 := keptH_onlyG ho8 (hK4.drew.trans hK7) (by rw [HG.out]; exact hle2)
    obtain ⟨d0, d1, d2, d3⟩ := hZ.cells
    go_wp2_with fail
    refine bodyPost_ret (v := .tuple #[.agg #[.int .i64 cm, .int .i64 ct, .int .i64 ag, .slice ay nL cy], .bool true]) (by simp [results, Try.results25, go_sem, d0, d1, d2, d3]) rfl ⟨v7, _, rfl, by rw [HLL.out]; exact hQ8, by rw [HLL.out, HNL.out]; exact hy8, hb8, hK8⟩
end Go.Proofs.Ytaekefedmobfoaa
