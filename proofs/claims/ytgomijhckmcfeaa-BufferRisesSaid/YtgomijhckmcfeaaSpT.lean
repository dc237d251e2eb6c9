/- split: the document's Put, of a part that is new. -/
import Derived.Test.YtgomijhckmcfeaaSpS
import Derived.Test.YtgomijhckmcfeaaSpR
namespace Go.Proofs.Ytgomijhckmcfeaa
open Go.RowKit
set_option linter.unusedVariables false
set_option linter.unusedSimpArgs false
open splitBack
theorem txV_set (P : List (Option ByteArray)) (i : Nat) (d : ByteArray) : txV (P.set i (some d)) = (txV P).set i (.string d) := by simp [txV, List.map_set]
theorem hadV_one (P : List (Option ByteArray)) : ∀ u ∈ hadV P, u.oneCell' = true := by
  intro u hu
  obtain ⟨o, _, rfl⟩ := List.mem_map.1 hu
  rfl
theorem txV_one (P : List (Option ByteArray)) : ∀ u ∈ txV P, u.oneCell' = true := by
  intro u hu
  obtain ⟨o, _, rfl⟩ := List.mem_map.1 hu
  rfl
set_option maxRecDepth 100000 in
set_option maxHeartbeats 1600000 in
theorem refSpPutNew {w : World} {b b' N hc pc : Nat} {ha pa : Option Addr} (t now : Int) (i : Nat) (s : ByteArray) {P : List (Option ByteArray)} (hP : P.length = N) (h2 : N ≤ 255) (h : OwnE w b 4 1 (.slice ha N hc) N (hadV P)) (hp : OwnE w b' 9 1 (.slice pa N pc) N (txV P)) (hi : P[i]? = some none) :
    Calls Try.prog 55 #[.agg #[.int .i64 t, .int .i64 now, .slice ha N hc, .slice pa N pc], .int .i64 i, .int .i64 N, .string s] w fun e w' => ∃ ha' hc' pa' pc' r, e = .returned (.tuple #[.agg #[.int .i64 t, .int .i64 now, .slice ha' N hc', .slice pa' N pc'], .int .i64 r]) ∧ r = (if spH P + 1 = N then 2 else 1) ∧ OwnE w' w.heap.size 4 1 (.slice ha' N hc') N (hadV (P.set i (some s))) ∧ OwnE w' w.heap.size 9 1 (.slice pa' N pc') N (txV (P.set i (some s))) ∧ Below w.heap.size w w' := by
  have hil : i < N := by have := (List.getElem?_eq_some_iff.1 hi).1; omega
  obtain ⟨ib, hib, hbz0, hbz1, hbz2⟩ := info_parts spInfoBool2
  obtain ⟨it, hit, htz0, htz1, htz2⟩ := info_parts infoSp
  have hLH : Hid ((hadV P).length = N * 1) := Lib.hid (by rw [hadV_len]; omega)
  have hLT : Hid ((txV P).length = N * 1) := Lib.hid (by rw [txV_len]; omega)
  have hOH := Lib.hid (hadV_one P)
  have hOT := Lib.hid (txV_one P)
  have HP' : (P.set i (some s)).length = N := by rw [List.length_set]; exact hP
  have HSH := Lib.hid (hadV_set P i s)
  have HST := Lib.hid (txV_set P i s)
  have HSl := Lib.hid (spH_set P i s hi)
  have HLA := Lib.hid (spLk_all (P.set i (some s)))
  rw [HP', HSl.out] at HLA
  have HLK := Lib.hid (fun (W : World) (b : Nat) (ha pa : Option Addr) (hc pc : Nat) (h : OwnE W b 4 1 (.slice ha N hc) N (hadV (P.set i (some s)))) => refSpLacks_any (pa := pa) (pc := pc) t now HP' (by omega) h2 h)
  have hh := Lib.hid h
  have hpp := Lib.hid hp
  obtain ⟨g, off, rfl, hbg, hgl, _, hcl⟩ := had_cells hP (by omega) h
  obtain ⟨gp, ofp, rfl, hbgp, hglp, _, hclp⟩ := tx_cells hP (by omega) hp
  have hci := (hcl i _ hi).1
  obtain ⟨hX0, hX1, hb, hsz⟩ := spTwoBoxes 87 w (.int .i64 t) (.int .i64 now) (.slice (some ⟨g, off, none⟩) N hc) (.slice (some ⟨gp, ofp, none⟩) N pc) (.int .i64 0) (.int .i64 0) (.slice none 0 0) (.slice none 0 0)
  have HHc := Lib.hid (fun (P' : List (Option ByteArray)) (W : World) (b : Nat) (ha : Option Addr) (hc : Nat) (e : P'.length = N) (h : OwnE W b 4 1 (.slice ha N hc) N (hadV P')) => had_cells e (by omega) h)
  have HTc := Lib.hid (fun (P' : List (Option ByteArray)) (W : World) (b : Nat) (ha : Option Addr) (hc : Nat) (e : P'.length = N) (h : OwnE W b 9 1 (.slice ha N hc) N (txV P')) => tx_cells e (by omega) h)
  have HPL := Lib.hid hP
  have HPI := Lib.hid hi
  clear h hp hcl hclp hi hP HSl HP'
  go_enter Try.func55, Try.ntmps55
  go_upto_region 1 with fail
  generalize ((w.alloc (.cells #[.int .i64 t, .int .i64 now, .slice (some ⟨g, off, none⟩) N hc, .slice (some ⟨gp, ofp, none⟩) N pc] 87)).alloc (.cells #[.int .i64 0, .int .i64 0, .slice none 0 0, .slice none 0 0] 87)) = w2 at *
  have hh2 := hh.out.later hb
  have hpp2 := hpp.out.later hb
  obtain ⟨B, hBe⟩ : ∃ B, w.heap.size = B := ⟨_, rfl⟩
  have HBE := Lib.hid hBe
  rw [hBe] at hX0 hX1 hb hsz hgl hglp ⊢
  clear hBe hh hpp
  have hc2 : w2.cell? ⟨g, off + i, none⟩ = some (.bool false) := (hb.cell hgl).trans hci
  have hd1 : decide ((i : Int) < 0) = false := by simp
  have hd2 : decide (N ≤ i) = false := decide_eq_false (by omega)
  have hB2 : B ≤ w2.heap.size := by omega
  clear hsz
  obtain ⟨_, _, _, _⟩ := hX0.cells4
  go_upto_region 5 with fail
  -- the copy of what is there
  have hal3 : Below w2.heap.size w2 (w2.alloc (.cells #[] 4)) := (Below.refl _ _).alloc (Nat.le_refl _) _
  have hE3 : OwnE (w2.alloc (.cells #[] 4)) B 4 1 (.slice (some ⟨w2.heap.size, 0, none⟩) 0 0) 0 [] := ownE_of (World.ownsRow_lit w2 #[] 0 hB2 (Nat.zero_le _) rfl)
  obtain ⟨xa, xc, e, hnn, hcc, _⟩ := (hh2.later hal3).srcG
  cases e
  have HN3 := Lib.hid hnn
  have HC3 := Lib.hid hcc
  have hX0_3 := hX0.later hal3
  have hX1_3 := hX1.later hal3
  have hpp3 := hpp2.later hal3
  obtain ⟨_, _, _, _⟩ := hX0_3.cells4
  clear hnn hcc hh2
  go_wp2_with (at_builtin; refine append_anyG _ rfl (.tmp 33) (.tmp 35) 84 rfl 4 ib (.bool false) 1 1 Try.underlying84 hib hbz0 hbz1 hbz2 rfl (by decide) B _ 0 [] rfl hE3 (some ⟨g, off, none⟩) N hc (hadV P) rfl hLH.out HN3.out HC3.out hOH.out ?m1 ?m2 (by simp; omega) ?_)
  case m1 => unfold maxLen; omega
  case m2 => omega
  intro v4 w4 hO4 hg4 _
  have hb4 : Below w2.heap.size w2 w4 := hal3.grown hg4 (by simp) (fun k hk => by cases hk; exact Nat.le_refl _)
  have hH4 : OwnE w4 B 4 1 v4 N (hadV P) := by simpa using hO4
  obtain ⟨a4, c4, rfl⟩ := hH4.formG
  have hX0_4 := hX0.later hb4
  have hX1_4 := hX1.later hb4
  have hpp4 := hpp2.later hb4
  have hbb4 := hb.trans (hb4.mono hB2)
  have hB4 : B ≤ w4.heap.size := Nat.le_trans hB2 hb4.size
  clear hO4 hg4 hal3 hE3 hX0_3 hX1_3 hpp3 hX0 hX1 hpp2 hb hb4 hc2 HN3 HC3 hci
  go_upto_region 6 with fail
  have hal5 : Below w4.heap.size w4 (w4.alloc (.cells #[] 9)) := (Below.refl _ _).alloc (Nat.le_refl _) _
  have hE5 : OwnE (w4.alloc (.cells #[] 9)) B 9 1 (.slice (some ⟨w4.heap.size, 0, none⟩) 0 0) 0 [] := ownE_of (World.ownsRow_lit w4 #[] 0 hB4 (Nat.zero_le _) rfl)
  obtain ⟨xa, xc, e, hnn, hcc, _⟩ := (hpp4.later hal5).srcG
  cases e
  have HN5 := Lib.hid hnn
  have HC5 := Lib.hid hcc
  have hX0_5 := hX0_4.later hal5
  obtain ⟨_, _, _, _⟩ := hX0_5.cells4
  clear hnn hcc hpp4
  go_wp2_with (at_builtin; refine append_anyG _ rfl (.tmp 37) (.tmp 39) 85 rfl 9 it (.string ByteArray.empty) 1 16 Try.underlying85 hit htz0 htz1 htz2 rfl (by decide) B _ 0 [] rfl hE5 (some ⟨gp, ofp, none⟩) N pc (txV P) rfl hLT.out HN5.out HC5.out hOT.out ?m3 ?m4 (by simp; omega) ?_)
  case m3 => unfold maxLen; omega
  case m4 => omega
  intro v6 w6 hO6 hg6 _
  have hb6 : Below w4.heap.size w4 w6 := hal5.grown hg6 (by simp) (fun k hk => by cases hk; exact Nat.le_refl _)
  have hT6 : OwnE w6 B 9 1 v6 N (txV P) := by simpa using hO6
  obtain ⟨a6, c6, rfl⟩ := hT6.formG
  have hX0_6 := hX0_4.later hb6
  have hX1_6 := hX1_4.later hb6
  have hH6 := hH4.later hb6
  have hbb6 := hbb4.trans (hb6.mono hB4)
  clear hO6 hg6 hal5 hE5 hX0_5 hX0_4 hX1_4 hH4 hbb4 hb6 HN5 HC5
  obtain ⟨g4, o4, rfl, hbg4, hgl4, ⟨cs4, hcs4⟩, hcl4⟩ := HHc.out P w6 B a4 c4 HPL.out hH6
  obtain ⟨q1, q2⟩ := hcl4 i _ HPI.out
  have ho7 := (Only.refl g4 w6).setCell (o4 + i) (.bool true)
  have hX0_7 := hX0_6.only (hX0_6.ne hcs4 (by decide)) ho7
  have hX1_7 := hX1_6.only (hX1_6.ne hcs4 (by decide)) ho7
  have hT7 := hT6.onlyRow hcs4 (by decide) ho7
  have hH7 := hH6.setAt i (.bool true) (by rw [hadV_len, HPL.out]; exact hil)
  rw [← HSH.out] at hH7
  have hbb7 := hbb6.trans (ho7.below hbg4)
  clear hcl4 hcs4 ho7 hX0_6 hX1_6 hT6 hH6 hbb6
  go_upto_region 8 with fail
  generalize w6.setCell ⟨g4, o4 + i, none⟩ (.bool true) = w7 at *
  clear q1 q2
  obtain ⟨g6, o6, rfl, hbg6, hgl6, ⟨cs6, hcs6⟩, hcl6⟩ := HTc.out P w7 B a6 c6 HPL.out hT7
  obtain ⟨q1, q2⟩ := hcl6 i _ HPI.out
  have ho8 := (Only.refl g6 w7).setCell (o6 + i) (.string s)
  have hX0_8 := hX0_7.only (hX0_7.ne hcs6 (by decide)) ho8
  have hX1_8 := hX1_7.only (hX1_7.ne hcs6 (by decide)) ho8
  have hH8 := hH7.onlyRow hcs6 (by decide) ho8
  have hT8 := hT7.setAt i (.string s) (by rw [txV_len, HPL.out]; exact hil)
  rw [← HST.out] at hT8
  have hbb8 := hbb7.trans (ho8.below hbg6)
  clear hcl6 hcs6 ho8 hX0_7 hX1_7 hT7 hH7 hbb7
  go_upto_region 9 with fail
  generalize w7.setCell ⟨g6, o6 + i, none⟩ (.string s) = w8 at *
  clear q1 q2
  have hN01 : B ≠ B + 1 := by omega
  have ho9 := ((Only.refl B w8).setCell 2 (.slice (some ⟨g4, o4, none⟩) N c4)).setCell 3 (.slice (some ⟨g6, o6, none⟩) N c6)
  have hX9a : AtS 87 (w8.setCell ⟨B, 2, none⟩ (.slice (some ⟨g4, o4, none⟩) N c4)) B #[.int .i64 t, .int .i64 now, .slice (some ⟨g4, o4, none⟩) N c4, .slice (some ⟨gp, ofp, none⟩) N pc] := block_setCell hX0_8
  have hX0_9 : AtS 87 ((w8.setCell ⟨B, 2, none⟩ (.slice (some ⟨g4, o4, none⟩) N c4)).setCell ⟨B, 3, none⟩ (.slice (some ⟨g6, o6, none⟩) N c6)) B #[.int .i64 t, .int .i64 now, .slice (some ⟨g4, o4, none⟩) N c4, .slice (some ⟨g6, o6, none⟩) N c6] := block_setCell hX9a
  have hX1_9 := hX1_8.only (Ne.symm hN01) ho9
  have hH9 := hH8.onlyRow hX0_8 (by decide) ho9
  have hT9 := hT8.onlyRow hX0_8 (by decide) ho9
  have hbb9 := hbb8.trans (ho9.below (Nat.le_refl _))
  obtain ⟨_, _, _, _⟩ := hX0_8.cells4
  obtain ⟨_, _, _, _⟩ := hX0_8.frees4
  clear hX9a ho9 hX1_8 hH8 hT8 hbb8 hX0_8
  go_upto_region 11 with fail
  generalize ((w8.setCell ⟨B, 2, none⟩ (.slice (some ⟨g4, o4, none⟩) N c4)).setCell ⟨B, 3, none⟩ (.slice (some ⟨g6, o6, none⟩) N c6)) = w9 at *
  obtain ⟨_, _, _, _⟩ := hX0_9.cells4
  have HLW := Lib.hid (HLK.out w9 B (some ⟨g4, o4, none⟩) (some ⟨g6, o6, none⟩) c4 c6 hH9)
  have HLA2 := HLA.out
  generalize (spLk (P.set i (some s)) N).map (Value.int .i64) = xs at *
  generalize (spLk (P.set i (some s)) N).length = nk at *
  go_wp2_with fail
  refine HLW.out.mono ?_
  rintro e w10 ⟨v, rfl, hOl, hbl⟩
  obtain ⟨al, cl, rfl⟩ := hOl.formG
  have hB9 : B ≤ w9.heap.size := Nat.le_of_lt hX0_9.lt
  have hX0_10 := hX0_9.later hbl
  have hX1_10 := hX1_9.later hbl
  have hH10 := hH9.later hbl
  have hT10 := hT9.later hbl
  have hbb10 := hbb9.trans (hbl.mono hB9)
  have ho := spPut4_only w10 (B + 1) (.int .i64 t) (.int .i64 now) (.slice (some ⟨g4, o4, none⟩) N c4) (.slice (some ⟨g6, o6, none⟩) N c6)
  have hZ := atS_put4 (.int .i64 t) (.int .i64 now) (.slice (some ⟨g4, o4, none⟩) N c4) (.slice (some ⟨g6, o6, none⟩) N c6) hX1_10
  have HH := Lib.hid (hH10.onlyRow hX1_10 (by decide) ho)
  have HT := Lib.hid (hT10.onlyRow hX1_10 (by decide) ho)
  have HBZ := Lib.hid (hbb10.trans (ho.below (Nat.le_succ B)))
  clear hX0_9 hX1_9 hH9 hT9 hbb9 hbl hOl ho hH10 hT10 hbb10
  obtain ⟨_, _, _, _⟩ := hX0_10.cells4
  obtain ⟨_, _, _, _⟩ := hX1_10.cells4
  obtain ⟨_, _, _, _⟩ := hX1_10.frees4
  obtain ⟨d0, d1, d2, d3⟩ := hZ.cells4
  clear hZ hX0_10 hX1_10
  by_cases hz : nk = 0
  · have HR : Hid ((2 : Int) = (if spH P + 1 = N then 2 else 1)) := Lib.hid (by rw [if_pos (by omega)])
    go_wp2_with fail
    generalize ((((w10.setCell ⟨B + 1, 0, none⟩ (.int .i64 t)).setCell ⟨B + 1, 1, none⟩ (.int .i64 now)).setCell ⟨B + 1, 2, none⟩ (.slice (some ⟨g4, o4, none⟩) N c4)).setCell ⟨B + 1, 3, none⟩ (.slice (some ⟨g6, o6, none⟩) N c6)) = w12 at HBZ HH HT d0 d1 d2 d3 ⊢
    refine bodyPost_ret (v := .tuple #[.agg #[.int .i64 t, .int .i64 now, .slice (some ⟨g4, o4, none⟩) N c4, .slice (some ⟨g6, o6, none⟩) N c6], .int .i64 2]) (by simp [results, Try.results55, go_sem, d0, d1, d2, d3]) rfl ⟨_, _, _, _, _, rfl, (by first | exact HR.out | rfl), by rw [HBE.out]; exact HH.out, by rw [HBE.out]; exact HT.out, by rw [HBE.out]; exact HBZ.out⟩
  · have HR : Hid ((1 : Int) = (if spH P + 1 = N then 2 else 1)) := Lib.hid (by rw [if_neg (by omega)])
    have hd5 : ((nk : Int) == 0) = false := by simp; exact hz
    go_wp2_with fail
    generalize ((((w10.setCell ⟨B + 1, 0, none⟩ (.int .i64 t)).setCell ⟨B + 1, 1, none⟩ (.int .i64 now)).setCell ⟨B + 1, 2, none⟩ (.slice (some ⟨g4, o4, none⟩) N c4)).setCell ⟨B + 1, 3, none⟩ (.slice (some ⟨g6, o6, none⟩) N c6)) = w12 at HBZ HH HT d0 d1 d2 d3 ⊢
    refine bodyPost_ret (v := .tuple #[.agg #[.int .i64 t, .int .i64 now, .slice (some ⟨g4, o4, none⟩) N c4, .slice (some ⟨g6, o6, none⟩) N c6], .int .i64 1]) (by simp [results, Try.results55, go_sem, d0, d1, d2, d3]) rfl ⟨_, _, _, _, _, rfl, (by first | exact HR.out | rfl), by rw [HBE.out]; exact HH.out, by rw [HBE.out]; exact HT.out, by rw [HBE.out]; exact HBZ.out⟩
end Go.Proofs.Ytgomijhckmcfeaa
