/- CordellePaced: the walk. -/
import Derived.Test.YtgmggilnhkdceaaPgM
import Derived.Test.YtgmggilnhkdceaaCrcD
namespace Go.Proofs.Ytgmggilnhkdceaa
open Go.RowKit
set_option linter.unusedVariables false
set_option linter.unusedSimpArgs false
theorem pgBnds : quC 50 = 50 ∧ quC 1048576 = 1048576 := by decide
namespace cordellePaced
set_option maxRecDepth 100000 in
set_option maxHeartbeats 6400000 in
theorem walk (p0 : Option Addr) (len0 cap0 : Nat) (z0 : List ByteArray) (a1 a2 : Int) (w1 : (Lit.int .i64 a1).wf = true) (w2 : (Lit.int .i64 a2).wf = true) (w : World) (w0 : IsTexts w p0 len0 cap0 z0) :
    Calls Try.prog 13 #[.slice p0 len0 cap0, .int .i64 a1, .int .i64 a2] w fun e w' => e = .returned (.bool true) ∧ Below w.heap.size w w' := by
  obtain ⟨zs, rfl, l1, l2, hr0, hz0⟩ := w0.reads
  have HFew : Hid (∀ W : World, Below w.heap.size w W → Calls Try.prog 41 #[.slice p0 zs.length cap0, .int .i64 30, .int .i64 40] W fun e w' => ∃ v, e = .returned v ∧ w'.ownsRow W.heap.size 9 1 v (zs.take 30).length (((zs.take 30).map (cutB · 40)).map Value.string) ∧ Below W.heap.size W w') := Lib.hid (fun W hW => few_any zs p0 cap0 zs.length 30 40 W rfl (hr0.later hW) (by omega) (fun s hs => by have := hz0 s hs; unfold maxLen at this; omega) (by omega) (by omega))
  have hmask : ∀ z : Int, bits .and .i64 z 63 = z % 64 := fun z => i64_mask z 6 (by omega)
  obtain ⟨ls, hls⟩ : ∃ ls, ls = (zs.take 30).map (cutB · 40) := ⟨_, rfl⟩
  have hlen : ls.length ≤ 30 := by rw [hls, List.length_map, List.length_take]; omega
  have hsize : ∀ s ∈ ls, s.size ≤ 40 := fun s hs => by
    rw [hls] at hs
    obtain ⟨t, _, rfl⟩ := List.mem_map.1 hs
    exact cutB_size t 40
  have HSz := Lib.hid hsize
  have HL0 : Hid ((zs.take 30).length = ls.length) := Lib.hid (by rw [hls, List.length_map])
  have HL1 : Hid (((zs.take 30).map (cutB · 40)).map Value.string = quV ls) := Lib.hid (by rw [hls]; rfl)
  obtain ⟨hq50, hqM⟩ := pgBnds
  have HQ50 := Lib.hid hq50
  have HQM := Lib.hid hqM
  obtain ⟨r, hr⟩ : ∃ z, 1 + a1 % 64 = z := ⟨_, rfl⟩
  obtain ⟨b, hbb⟩ : ∃ z, 40 + a2 % 64 = z := ⟨_, rfl⟩
  have r0 : 1 ≤ r := by omega
  have r1 : r ≤ 64 := by omega
  have b0 : 40 ≤ b := by omega
  have b1 : b ≤ 103 := by omega
  have hwr : IntKind.i64.wrap r = r := IntWalk.i64_in _ ⟨by omega, by omega⟩
  have hwb : IntKind.i64.wrap b = b := IntWalk.i64_in _ ⟨by omega, by omega⟩
  have HN : Hid (∀ W : World, Calls Try.prog 30 #[.int .i64 r, .int .i64 b, .int .i64 0] W fun e w' => e = .returned (.agg #[.int .i64 r, .int .i64 b, .int .i64 b, .int .i64 0]) ∧ Below W.heap.size W w') := Lib.hid (fun W => by
    have e : PP.fit ⟨r, b, 1048576, 0⟩ = ⟨r, b, b, 0⟩ := by
      simp only [PP.fit, PP.mk.injEq]
      refine ⟨?_, ?_, ?_, ?_⟩ <;> omega
    have := paNew_any r b 0 W
    rw [e] at this
    exact this)
  have HI0 := Lib.hid (pcI_new r b r0 r1 b0 b1)
  have hbne : (b != b) = false := by simp
  clear w0 w1 w2 hr0 hz0 hls hsize hq50 hqM l2
  go_enter Try.func13, Try.ntmps13
  go_wp2_with fail
  clear hr hbb
  refine (quNew_any 50 1048576 w).mono ?_
  rintro e wa ⟨rfl, hQa, hba⟩
  generalize hgq : w.heap.size = gq at hQa hba ⊢
  have HGQ := Lib.hid hgq
  clear hgq
  go_wp2_with fail
  refine (HN.out _).mono ?_
  rintro e wb ⟨rfl, hkb⟩
  have hQb := hQa.later hkb
  have hbz := hba.trans (hkb.mono (Nat.le_of_lt hQa.at4.lt))
  have hglt : gq < wb.heap.size := hQb.at4.lt
  have hal : Below wb.heap.size wb (wb.alloc (.cells #[.int .i64 r, .int .i64 b, .int .i64 b, .int .i64 0] 49)) := (Below.refl _ _).alloc (Nat.le_refl _) _
  have hX := at4_new 49 wb wb.heap.size (.int .i64 r) (.int .i64 b) (.int .i64 b) (.int .i64 0) rfl
  have hQc := hQb.later hal
  have hbc := hbz.trans (hal.mono (Nat.le_of_lt hglt))
  go_upto_region 4 with fail
  generalize wb.alloc (.cells #[.int .i64 r, .int .i64 b, .int .i64 b, .int .i64 0] 49) = wc at hX hQc hbc ⊢
  generalize wb.heap.size = g1 at hX hglt ⊢
  clear hQa hba hkb hQb hbz hal HN
  obtain ⟨_, _, _, _⟩ := hX.cells
  go_wp2_with fail
  refine (HFew.out wc (by rw [HGQ.out]; exact hbc)).mono ?_
  rintro e wd ⟨vl, rfl, hown, hkd⟩
  rw [HL0.out, HL1.out] at hown
  have hRow := (ownE_of hown).base (show gq ≤ _ from Nat.le_of_lt hQc.at4.lt)
  have hXd := hX.later hkd
  have hQd := hQc.later hkd
  have hbd := hbc.trans (hkd.mono (Nat.le_of_lt hQc.at4.lt))
  clear hown hkd HFew HL0 HL1 hX hQc hbc
  obtain ⟨al, cl, rfl⟩ := hRow.form
  go_wp2_with fail
  go_loopw [42] (fun i wr => ∃ (k : Nat) (v : Value), k ≤ ls.length ∧ i = .int .i64 k ∧ QIn wr gq gq 50 1048576 v (ls.take k) ∧ At4 49 wr g1 (.int .i64 r) (.int .i64 b) (.int .i64 b) (.int .i64 0) ∧ OwnE wr gq 9 1 (.slice al ls.length cl) ls.length (quV ls) ∧ Below gq w wr) (fun i _ => ls.length - (intOf i).toNat)
  case atStart => exact ⟨0, _, Nat.zero_le _, rfl, hQd, hXd, hRow, hbd⟩
  case round =>
    obtain ⟨k, v, hk, rfl, hQ, hX, hR, hb⟩ := hrel
    clear hQd hXd hRow hbd
    by_cases hlt : k < ls.length
    · obtain ⟨s, hs⟩ : ∃ s, ls[k]? = some s := ⟨_, List.getElem?_eq_getElem hlt⟩
      obtain ⟨g, off, cap, e, hc1, hc2, hcl⟩ := hR.texts (by omega)
      simp only [Value.slice.injEq, true_and] at e
      obtain ⟨rfl, rfl⟩ := e
      have hcell := hcl k s hs
      have HTake : Hid (ls.take k ++ [s] = ls.take (k + 1)) := Lib.hid (by rw [List.take_add_one, hs]; rfl)
      have HTt : Hid (quTot (ls.take k) + quTot [s] ≤ 1048576) := Lib.hid (by
        have h1 := quTot_le (ls.take k ++ [s]) 40 (fun s hs => HSz.out s (by rw [HTake.out] at hs; exact List.mem_of_mem_take hs))
        rw [quTot_app, List.length_append, List.length_take] at h1
        simp only [List.length_cons, List.length_nil] at h1
        omega)
      have hkl : (ls.take k).length = k := by rw [List.length_take]; omega
      have HKl := Lib.hid hkl
      clear hcl hs hkl
      go_wp2_with fail
      have hal : Below wr.heap.size wr (wr.alloc (.cells #[.string s] 71)) := (Below.refl _ _).alloc (Nat.le_refl _) _
      refine (quPush_any (hQ.later hal) [s] (by simp) wr.heap.size 0 1 (row_texts wr [s] 71) (by rw [HQ50.out, HKl.out]; simp; omega) (by rw [HQM.out]; exact HTt.out)).mono ?_
      rintro e w5 ⟨rfl, ⟨v5, hQ5⟩, hk5, hK5⟩
      rw [HTake.out] at hQ5
      have hX5 := (hX.later hal).keptQ hK5 (by decide) (by decide)
      have hR5 := (hR.later hal).keptQ hK5 (by decide) (by decide)
      have hb5 := (hb.trans (hal.mono (Nat.le_of_lt hQ.at4.lt))).trans hk5
      clear hQ hX hR hb hal hk5 hK5 HTake HTt HKl hcell
      go_wp2_with fail
      go_roundw
      case rel => exact ⟨k + 1, v5, by omega, by go_num, hQ5, hX5, hR5, hb5⟩
      case measure => simp [intOf]; omega
    · obtain rfl : k = ls.length := by omega
      rw [List.take_length] at hQ
      have hQ0 : QIn wr gq gq 50 1048576 v (ls.drop 0) := hQ
      clear hQ
      go_wp2_with fail
      go_loopw [11, 12, 54] (fun nw al_ i wx => ∃ (k : Nat) (v : Value) (p : PP) (now all : Int), k ≤ ls.length ∧ i = .int .i64 k ∧ nw = .int .i64 now ∧ al_ = .int .i64 all ∧ 0 ≤ now ∧ now ≤ 40 * k ∧ 0 ≤ all ∧ all ≤ 40 * k ∧ Hid (PcI r b now all p) ∧ QIn wx gq gq 50 1048576 v (ls.drop k) ∧ At4 49 wx g1 (.int .i64 p.r) (.int .i64 p.b) (.int .i64 p.k) (.int .i64 p.l) ∧ OwnE wx gq 9 1 (.slice al ls.length cl) ls.length (quV ls) ∧ Below gq w wx) (fun _ _ i _ => ls.length - (intOf i).toNat)
      case atStart => exact ⟨0, v, ⟨r, b, b, 0⟩, 0, 0, Nat.zero_le _, rfl, rfl, rfl, by omega, by omega, by omega, by omega, HI0, hQ0, hX, hR, hb⟩
      case round =>
        obtain ⟨k, v9, p, now, all, hk9, rfl, rfl, rfl, n0, n1, s0, s1, HI, hQ9, hX9, hR9, hb9⟩ := hrel
        clear hQ0 hX hR hb HI0
        by_cases hlt9 : k < ls.length
        · obtain ⟨s, hs⟩ : ∃ s, ls[k]? = some s := ⟨_, List.getElem?_eq_getElem hlt9⟩
          obtain ⟨g, off, cap, e, hc1, hc2, hcl⟩ := hR9.texts (by omega)
          simp only [Value.slice.injEq, true_and] at e
          obtain ⟨rfl, rfl⟩ := e
          have hcell := hcl k s hs
          have hs40 : s.size ≤ 40 := HSz.out s (List.mem_of_getElem? hs)
          have hdr : ls.drop k = s :: ls.drop (k + 1) := by
            obtain ⟨h1, rfl⟩ := List.getElem?_eq_some_iff.1 hs
            exact List.drop_eq_getElem_cons h1
          rw [hdr] at hQ9
          have HF := Lib.hid (quFront1_q hQ9)
          obtain ⟨x0, x1, x2, x3, x4, x5⟩ := HI.out.step (s.size : Int) (by omega) (by omega) b0 n0 (by omega)
          obtain ⟨x6, x7⟩ := x4.mul_bd r1 (by omega) (by omega)
          have HW := Lib.hid (fun W => paWhen_any p (s.size : Int) W)
          have HT := Lib.hid (fun W => paTake_any p (p.when (s.size : Int)) (s.size : Int) W)
          have HE := Lib.hid (fun W => paTake_any p (p.when (s.size : Int) - 1) (s.size : Int) W)
          rw [decide_eq_true x2] at HT
          have HI2 := Lib.hid x4
          have HX3 := Lib.hid x3
          clear x2 x3 x4 hcl hdr hs
          generalize p.when (s.size : Int) = t at *
          generalize p.take t (s.size : Int) = p2 at *
          generalize p.take (t - 1) (s.size : Int) = p3 at HE
          simp only [PP.val] at HW HT HE
          obtain ⟨M, hM⟩ : ∃ y, r * t = y := ⟨_, rfl⟩
          rw [hM] at x5 x6 x7
          have hwM : IntKind.i64.wrap (r * t) = M := by rw [hM]; exact IntWalk.i64_in _ ⟨by omega, by omega⟩
          have hwB : IntKind.i64.wrap (b + M) = b + M := IntWalk.i64_in _ ⟨by omega, by omega⟩
          have hwA : IntKind.i64.wrap (all + s.size) = all + s.size := IntWalk.i64_in _ ⟨by omega, by omega⟩
          have hwt : IntKind.i64.wrap (t - 1) = t - 1 := IntWalk.i64_in _ ⟨by omega, by omega⟩
          have hx5 : ¬ b + M < all + (s.size : Int) := by omega
          have htb : t ≤ 1048576 := by omega
          clear hM
          go_wp2_with fail
          refine HF.out.mono ?_
          rintro e w5 ⟨rfl, hq5⟩
          subst hq5
          clear HF
          go_upto_region 20 with fail
          have HSS : Hid (∀ W : World, Below w5.heap.size w5 W → W.cell? ⟨g1, 0, none⟩ = some (.int .i64 p.r) ∧ W.cell? ⟨g1, 1, none⟩ = some (.int .i64 p.b) ∧ W.cell? ⟨g1, 2, none⟩ = some (.int .i64 p.k) ∧ W.cell? ⟨g1, 3, none⟩ = some (.int .i64 p.l)) := Lib.hid (fun W hW => (hX9.later hW).cells)
          obtain ⟨_, _, _, _⟩ := hX9.cells
          go_cut [16] (fun y wz => y = .int .i64 t ∧ Below w5.heap.size w5 wz)
          case first =>
            go_region_held3 (fun W => W.cell? ⟨g1, 0, none⟩ = some (.int .i64 p.r) ∧ W.cell? ⟨g1, 1, none⟩ = some (.int .i64 p.b) ∧ W.cell? ⟨g1, 2, none⟩ = some (.int .i64 p.k) ∧ W.cell? ⟨g1, 3, none⟩ = some (.int .i64 p.l)) (first | (go_keep; done) | exact HSS.out _ (Below.drew (Below.refl _ _)) | exact HSS.out _ hk6) (first | (go_at_call 45; refine (quTSize_q _ _).mono ?_; rintro e w' ⟨rfl, rfl⟩) | (go_at_call 32; refine (HW.out _).mono ?_; rintro e w6 ⟨rfl, hk6'⟩; have hk6 : Below w5.heap.size w5 w6 := Below.trans (Below.drew (Below.refl _ _)) hk6'))
            all_goals
              go_wp2_with fail
              go_meet
              exact ⟨rfl, hk6⟩
          case rest =>
          obtain ⟨rfl, hk6⟩ := hcut
          rename World => w6
          have hQ6 := hQ9.later hk6
          have hX6 := hX9.later hk6
          have hR6 := hR9.later hk6
          have hb6 := hb9.trans (hk6.mono (Nat.le_of_lt hQ9.at4.lt))
          clear hQ9 hX9 hR9 hb9 hk6 HSS HW hcell
          go_upto_if 85 with fail
          have HSS : Hid (∀ W : World, Below w6.heap.size w6 W → W.cell? ⟨g1, 0, none⟩ = some (.int .i64 p.r) ∧ W.cell? ⟨g1, 1, none⟩ = some (.int .i64 p.b) ∧ W.cell? ⟨g1, 2, none⟩ = some (.int .i64 p.k) ∧ W.cell? ⟨g1, 3, none⟩ = some (.int .i64 p.l)) := Lib.hid (fun W hW => (hX6.later hW).cells)
          obtain ⟨_, _, _, _⟩ := hX6.cells
          go_cut [16] (fun y wz => y = .int .i64 t ∧ Below w6.heap.size w6 wz)
          case first =>
            by_cases hgt : now < t
            · rw [decide_eq_false (HX3.out.resolve_left (by omega))] at HE
              go_upto_region 24 with fail
              go_region_held3 (fun W => W.cell? ⟨g1, 0, none⟩ = some (.int .i64 p.r) ∧ W.cell? ⟨g1, 1, none⟩ = some (.int .i64 p.b) ∧ W.cell? ⟨g1, 2, none⟩ = some (.int .i64 p.k) ∧ W.cell? ⟨g1, 3, none⟩ = some (.int .i64 p.l)) (first | (go_keep; done) | exact HSS.out _ (Below.drew (Below.refl _ _)) | exact HSS.out _ hk7 | exact HSS.out _ (hk7.alloc hk7.size _) | exact HSS.out _ (hk7.trans ((put4_only w7 w6.heap.size _ _ _ _).below (Nat.le_refl _))) | exact HSS.out _ ((Below.refl w6.heap.size w6).alloc (Nat.le_refl _) _).drew) (first | (go_at_call 45; refine (quTSize_q _ _).mono ?_; rintro e w' ⟨rfl, rfl⟩) | (go_at_call 27; refine (HE.out _).mono ?_; rintro e w7 ⟨rfl, hk7'⟩; first | (have hk7 : Below w6.heap.size w6 w7 := Below.trans (Below.drew (Below.refl _ _)) hk7') | (have hk7 : Below w6.heap.size w6 w7 := Below.trans ((Below.refl w6.heap.size w6).alloc (Nat.le_refl _) (.cells #[.int .i64 0, .int .i64 0, .int .i64 0, .int .i64 0] 49)).drew (hk7'.mono (by simp)); have hN7 := (at4_new 49 w6 w6.heap.size (.int .i64 0) (.int .i64 0) (.int .i64 0) (.int .i64 0) rfl).drew.later hk7'; obtain ⟨_, _, _, _⟩ := hN7.cells; obtain ⟨_, _, _, _⟩ := hN7.frees)))
              all_goals
                go_wp2_with fail
                go_meet
                first
                | exact ⟨rfl, hk7.alloc hk7.size _⟩
                | exact ⟨rfl, hk7.trans ((put4_only w7 w6.heap.size _ _ _ _).below (Nat.le_refl _))⟩
            · go_wp2_with fail
              go_meet
              exact ⟨rfl, Below.refl _ _⟩
          case rest =>
          obtain ⟨rfl, hk7⟩ := hcut
          rename World => w7
          have hQ7 := hQ6.later hk7
          have hX7 := hX6.later hk7
          have hR7 := hR6.later hk7
          have hb7 := hb6.trans (hk7.mono (Nat.le_of_lt hQ6.at4.lt))
          clear hQ6 hX6 hR6 hb6 hk7 HSS HE HX3
          go_upto_region 29 with fail
          obtain ⟨_, _, _, _⟩ := hX7.cells
          go_cut [19] (fun y wz => y = .bool true ∧ QIn wz gq gq 50 1048576 v9 (s :: ls.drop (k + 1)) ∧ At4 49 wz g1 (.int .i64 p2.r) (.int .i64 p2.b) (.int .i64 p2.k) (.int .i64 p2.l) ∧ OwnE wz gq 9 1 (.slice (some ⟨g, off, none⟩) ls.length cl) ls.length (quV ls) ∧ Below gq w wz)
          case first =>
            go_region_with (first | (go_at_call 45; refine (quTSize_q _ _).mono ?_; rintro e w' ⟨rfl, hq⟩; subst hq) | (go_at_call 27; refine (HT.out _).mono ?_; rintro e w8 ⟨rfl, hk8⟩; have hX8 := hX7.drew.later hk8; have hk8z : Below w7.heap.size w7 w8 := Below.trans (Below.drew (Below.refl _ _)) hk8; obtain ⟨_, _, _, _⟩ := hX8.frees; obtain ⟨_, _, _, _⟩ := hX8.cells))
            all_goals
              have ho8 := put4_only w8 g1 (.int .i64 p2.r) (.int .i64 p2.b) (.int .i64 p2.k) (.int .i64 p2.l)
              have hQ8 := hQ7.later hk8z
              have hR8 := hR7.later hk8z
              have hb8 := hb7.trans (hk8z.mono (Nat.le_of_lt hQ7.at4.lt))
              go_wp2_with fail
              go_meet
              exact ⟨rfl, hQ8.onlyT hX8 ho8 (by decide) (by decide), at4_put hX8 _ _ _ _, hR8.onlyT hX8 ho8 (by decide), hb8.trans (ho8.below (Nat.le_of_lt hglt))⟩
          case rest =>
          obtain ⟨rfl, hQ9, hX9, hR9, hb9⟩ := hcut
          rename World => w9
          have HPop := Lib.hid (quPop1_any hQ9)
          clear hQ7 hX7 hR7 hb7 HT hQ9
          go_wp2_with fail
          refine HPop.out.mono ?_
          rintro e w10 ⟨rfl, ⟨v10, hQ10⟩, hk10, hK10⟩
          have hX10 := hX9.keptQ hK10 (by decide) (by decide)
          have hR10 := hR9.keptQ hK10 (by decide) (by decide)
          have hb10 := hb9.trans hk10
          clear HPop hX9 hR9 hb9 hk10 hK10
          go_wp2_with fail
          refine (quTSize_q _ _).mono ?_
          rintro e w11 ⟨rfl, hq11⟩
          subst hq11
          go_wp2_with fail
          go_roundw
          case rel => exact ⟨k + 1, v10, p2, t, all + s.size, by omega, by go_num, rfl, by first | rfl | go_num, by omega, by omega, by omega, by omega, HI2, hQ10, hX10, hR10, hb10⟩
          case measure => simp [intOf]; omega
        · obtain rfl : k = ls.length := by omega
          rw [List.drop_length] at hQ9
          go_wp2_with fail
          refine (quLen_q hQ9).mono ?_
          rintro e w5 ⟨rfl, rfl⟩
          go_wp2_with fail
          go_ret
          exact ⟨by simp, by rw [HGQ.out]; exact hb9⟩
end cordellePaced
end Go.Proofs.Ytgmggilnhkdceaa
