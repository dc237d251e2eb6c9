/- SplitBack: the walk. -/
import Derived.Test.YtihbhgimceglnaaSpBkM
namespace Go.Proofs.Ytihbhgimceglnaa
open Go.RowKit
set_option linter.unusedVariables false
set_option linter.unusedSimpArgs false
theorem spInfoBool : (Try.prog.info? 4).map (fun i => (i.zero, i.size, i.bytes)) = some (some (.bool false), 1, 1) := by kernel_rfl
theorem spMadeBools (n : Nat) : (madeCells #[Value.bool false] n).toList = List.replicate n (Value.bool false) := by
  unfold madeCells
  apply List.ext_getElem?
  intro i
  by_cases h : i < n
  · simp [h, Nat.mod_one]
  · rw [List.getElem?_eq_none (by simp; omega), List.getElem?_eq_none (by simp; omega)]
namespace splitBack
set_option maxRecDepth 100000 in
set_option maxHeartbeats 6400000 in
theorem walk (s0 : ByteArray) (a1 : Int) (p2 : Option Addr) (len2 cap2 : Nat) (z2 : List Int) (w0 : s0.size ≤ maxLen) (w1 : (Lit.int .i64 a1).wf = true) (w : World) (w2 : IsRow .i64 w p2 len2 cap2 z2) :
    Calls Try.prog 5 #[.string s0, .int .i64 a1, .slice p2 len2 cap2] w fun e w' => e = .returned (.bool true) ∧ Below w.heap.size w w' := by
  unfold maxLen at w0
  have hm : ∀ z : Int, bits .and .i64 z 65535 = z % 65536 := fun z => i64_mask z 16 (by omega)
  obtain ⟨es, rfl, l1, l2, hr0, hwf⟩ := w2.reads
  clear w2 hwf
  have HR := Lib.hid (fun (W : World) (h : Below w.heap.size w W) => hr0.later h)
  clear hr0
  have HC := Lib.hid (fun W => cut_any s0 400 W (by omega) (by omega))
  have hcs := sp_cut_le s0 400
  have hcn := spC_bd a1
  have hca := spC_alt a1
  have HS0 := Lib.hid (fun (W : World) (h : spC a1 * 255 < (cutB s0 400).size) => split_none (cutB s0 400) a1 W (by omega) h)
  have HS1 := Lib.hid (fun (W : World) (h : (cutB s0 400).size ≤ spC a1 * 255) => split_some (cutB s0 400) a1 W h)
  generalize spC a1 = n at *
  generalize cutB s0 400 = t at *
  clear w0 w1
  obtain ⟨ib, hib, hbz0, hbz1, hbz2⟩ := info_parts spInfoBool
  go_enter Try.func5, Try.ntmps5
  go_wp2_with fail
  refine (spAwake_any w).mono ?_
  rintro e wa ⟨rfl, hba⟩
  go_wp2_with fail
  refine (HC.out wa).mono ?_
  rintro e wb ⟨rfl, hq⟩
  subst hq
  by_cases hbig : n * 255 < t.size
  · go_wp2_with fail
    refine (HS0.out _ hbig).mono ?_
    rintro e wb ⟨rfl, hq⟩
    subst hq
    have hd : decide (255 * n < t.size) = true := decide_eq_true (by omega)
    go_wp2_with fail
    go_ret
    exact ⟨by simp; omega, hba⟩
  · have hN := spN_few t.size n hcn.1 hbig
    have hN1 := spN_pos t.size n
    go_wp2_with fail
    refine (HS1.out _ (by omega)).mono ?_
    rintro e wc ⟨v, rfl, hL, hbc⟩
    have hbb := hba.trans (hbc.mono hba.size)
    have HA : Hid (∀ i, i < spN t.size n → ((spL t n (spN t.size n)).map Value.string)[i]? = some (.string (spP t n i))) := Lib.hid fun i hi => by
      rw [List.getElem?_map, spL_at t n _ i hi]
      rfl
    have HCA := Lib.hid (spCat_all t n hcn.1)
    have HPL := Lib.hid (spP_le t n)
    have hOL := ownE_of hL
    generalize spN t.size n = N at *
    generalize (spL t n N).map Value.string = xs at *
    obtain ⟨g, off, cap, rfl, _, hcm, _, hgl, _⟩ := hOL.1.cells (by omega)
    have hkN : spK (N : Int) = N := by unfold spK; omega
    have HNw := Lib.hid (spNew_any 1 N 0 wc)
    rw [hkN] at HNw
    unfold maxLen at hcm
    clear hL hba hbc
    generalize wa.heap.size = BL at hOL
    go_wp2_with fail
    refine HNw.out.mono ?_
    rintro e wd ⟨gf, rfl, hF, hbd⟩
    have hOd := hOL.later hbd
    have hbD := hbb.trans (hbd.mono hbb.size)
    have hBF : w.heap.size ≤ wc.heap.size := hbb.size
    generalize wc.heap.size = BF at hF hBF
    clear HNw hbd hbb hOL
    go_wp2_with (at_make; refine wpList_make_full wd rfl _ _ 31 rfl wd.heap.size 4 ib (.bool false) 1 Try.underlying31 hib hbz0 hbz1 .i64 .i64 _ _ N rfl rfl rfl rfl ?_ ?_ (Nat.le_refl _) ?_)
    · rw [hbz2]; omega
    · unfold maxLen; omega
    intro we hown hgrow
    rw [spMadeBools] at hown
    have hH := ownE_of hown
    have hbe : Below wd.heap.size wd we := (Below.refl _ _).grown hgrow (Nat.le_refl _) (by intro k hk; cases hk)
    have hFe := hF.later hbe
    have hOe := hOd.later hbe
    have hbE := hbD.trans (hbe.mono hbD.size)
    have hgB : w.heap.size ≤ wd.heap.size := hbD.size
    obtain ⟨gh, hghe⟩ : ∃ gh, wd.heap.size = gh := ⟨_, rfl⟩
    rw [hghe] at hH hgB ⊢
    rw [← hadV_no N] at hH
    clear hown hgrow hbe hF hOd hbD hghe
    have HL1 := Lib.hid (fun (W : World) (h : OwnE W BL 9 1 (.slice (some ⟨g, off, none⟩) N cap) N xs) (i : Nat) (hi : i < N) => (by
      obtain ⟨g', off', cap', e, _, _, _, _, hc⟩ := h.1.cells (by omega)
      simp only [Value.slice.injEq, true_and, Option.some.injEq, Addr.mk.injEq, and_true] at e
      obtain ⟨⟨rfl, rfl⟩, rfl⟩ := e
      exact (hc i _ (HA.out i hi)).1 : W.cell? ⟨g, off + i, none⟩ = some (.string (spP t n i))))
    have HH1 := Lib.hid (fun (W : World) (P : List (Option ByteArray)) (h : OwnE W gh 4 1 (.slice (some ⟨gh, 0, none⟩) N N) N (hadV P)) (i : Nat) (o : Option ByteArray) (hi : P[i]? = some o) => (by
      obtain ⟨g', off', cap', e, _, _, _, _, hc⟩ := h.1.cells (by omega)
      simp only [Value.slice.injEq, true_and, Option.some.injEq, Addr.mk.injEq, and_true] at e
      obtain ⟨⟨rfl, rfl⟩, rfl⟩ := e
      have := hc i _ (hadV_at P i o hi)
      rw [Nat.zero_add] at this
      exact this : W.cell? ⟨gh, i, none⟩ = some (.bool o.isSome) ∧ W.frozen? ⟨gh, i, none⟩ = false))
    have HHB := Lib.hid (fun (W : World) (P : List (Option ByteArray)) (h : OwnE W gh 4 1 (.slice (some ⟨gh, 0, none⟩) N N) N (hadV P)) => (h.2 gh rfl : ∃ cs, W.heap[gh]? = some (.cells cs 4 (0, 0))))
    have hofe : Of t n (spNo N) := of_no t n N
    clear HA
    go_upto_block 0 with fail
    go_cut [16] (fun _ wx => ∃ (mp : Option Nat) (P : List (Option ByteArray)), FIn wx BF gf 1 N 0 mp P ∧ Of t n P ∧ OwnE wx BL 9 1 (.slice (some ⟨g, off, none⟩) N cap) N xs ∧ OwnE wx gh 4 1 (.slice (some ⟨gh, 0, none⟩) N N) N (hadV P) ∧ Below w.heap.size w wx)
    case first =>
      go_wp2_with fail
      go_loopw [10] (fun i wr => ∃ (k : Nat) (mp : Option Nat) (P : List (Option ByteArray)), k ≤ es.length ∧ k ≤ 40 ∧ i = .int .i64 k ∧ FIn wr BF gf 1 N 0 mp P ∧ Of t n P ∧ OwnE wr BL 9 1 (.slice (some ⟨g, off, none⟩) N cap) N xs ∧ OwnE wr gh 4 1 (.slice (some ⟨gh, 0, none⟩) N N) N (hadV P) ∧ Below w.heap.size w wr) (fun i _ => 40 - (intOf i).toNat)
      case atStart => exact ⟨0, none, spNo N, Nat.zero_le _, by omega, rfl, hFe, hofe, hOe, hH, hbE⟩
      case round =>
        obtain ⟨k, mp, P, hk, hk40, rfl, hF, hof, hO, hHd, hb⟩ := hrel
        clear hFe hofe hOe hH hbE
        have hPl := hF.len
        rw [hkN] at hPl
        by_cases hlt : k < es.length ∧ k < 40
        · obtain ⟨hlt, hlt40⟩ := hlt
          obtain ⟨ab, ao, rfl, c0⟩ := (HR.out wr hb).at hlt
          generalize es[k]?.getD 0 = z at c0
          obtain ⟨kk, hkk⟩ : ∃ kk : Nat, z % 65536 % (N : Int) = (kk : Int) := ⟨(z % 65536 % (N : Int)).toNat, by have := Int.emod_nonneg (z % 65536) (show (N : Int) ≠ 0 by omega); omega⟩
          have hkkN : kk < N := by have := Int.emod_lt_of_pos (z % 65536) (show (0 : Int) < N by omega); omega
          obtain ⟨o, ho⟩ : ∃ o, P[kk]? = some o := ⟨_, List.getElem?_eq_getElem (by omega)⟩
          have c1 := HL1.out wr hO kk hkkN
          have hps := HPL.out kk
          have hbp := of_size hof hcn.2
          rw [hPl] at hbp
          have hF0 := hF
          have hPk := Lib.hid ho
          have hRow := HHB.out wr P hHd
          obtain ⟨q1, q2⟩ := HH1.out wr P hHd kk o ho
          go_upto_region 15 with fail
          rw [hkk]
          cases o with
          | some d =>
            obtain rfl := hof kk d ho
            have HPu := Lib.hid (spPutTwice hF kk (spP t n kk) (spP t n kk) ho)
            rw [hkN] at HPu
            have HHS := Lib.hid (hadV_same P kk (spP t n kk) ho)
            have hhl := hadV_len P
            generalize spP t n kk = pp at *
            clear ho hkk c0 hF0
            go_wp2_with fail
            refine HPu.out.mono ?_
            rintro e w7 ⟨rfl, hk7⟩
            have hF7 := hF.later hk7
            have hO7 := hO.later hk7
            have hH7 := hHd.later hk7
            have hb7 := hb.trans (hk7.mono hb.size)
            obtain ⟨q3, q4⟩ := HH1.out w7 P hH7 kk _ hPk.out
            simp only [Option.isSome] at q3
            obtain ⟨cs, hcs⟩ := HHB.out w7 P hH7
            have ho8 := (Only.refl gh w7).setCell kk (.bool true)
            have hF8 := hF7.onlyRow hcs (by decide) ho8
            have hO8 := hO7.onlyRow hcs (by decide) ho8
            have hH8 : OwnE (w7.setCell ⟨gh, kk, none⟩ (.bool true)) gh 4 1 (.slice (some ⟨gh, 0, none⟩) N N) N (hadV P) := by
              have h9 := hH7.setAt kk (.bool true) (by omega)
              rw [Nat.zero_add, HHS.out] at h9
              exact h9
            have hb8 := hb7.trans (ho8.below hgB)
            clear hF hO hHd hb hk7 hF7 hO7 hH7 hb7 hcs c1 q1 q2
            go_upto_region 13 with fail
            generalize w7.setCell ⟨gh, kk, none⟩ (.bool true) = w8 at *
            go_wp2_with fail
            go_roundw
            case rel => exact ⟨k + 1, mp, P, by omega, by omega, by go_num, hF8, hof, hO8, hH8, hb8⟩
            case measure => simp [intOf]; omega
          | none =>
            have HPu := Lib.hid (spPutNew hF kk (spP t n kk) ho (by omega))
            rw [hkN] at HPu
            obtain ⟨r, hr, hr3⟩ : ∃ r : Int, (if spH P + 1 = N then (2 : Int) else 1) = r ∧ (r == 3) = false := ⟨_, rfl, by split <;> rfl⟩
            rw [hr] at HPu
            have HOf := Lib.hid (of_set hof kk)
            have HHS := Lib.hid (hadV_set P kk (spP t n kk))
            have hhl := hadV_len P
            generalize spP t n kk = pp at *
            clear ho hkk c0 hF0 hr
            go_wp2_with fail
            refine HPu.out.mono ?_
            rintro e w7 ⟨rfl, ⟨mp', hF7, _⟩, hk7, hK7⟩
            have hO7 := hK7.row hF hO (by decide)
            have hH7 := hK7.row hF hHd (by decide)
            have hb7 := hb.trans (hk7.mono hBF)
            obtain ⟨q3, q4⟩ := HH1.out w7 P hH7 kk _ hPk.out
            simp only [Option.isSome] at q3
            obtain ⟨cs, hcs⟩ := HHB.out w7 P hH7
            have ho8 := (Only.refl gh w7).setCell kk (.bool true)
            have hF8 := hF7.onlyRow hcs (by decide) ho8
            have hO8 := hO7.onlyRow hcs (by decide) ho8
            have hH8 : OwnE (w7.setCell ⟨gh, kk, none⟩ (.bool true)) gh 4 1 (.slice (some ⟨gh, 0, none⟩) N N) N (hadV (P.set kk (some pp))) := by
              have h9 := hH7.setAt kk (.bool true) (by omega)
              rw [Nat.zero_add, ← HHS.out] at h9
              exact h9
            have hb8 := hb7.trans (ho8.below hgB)
            clear hF hO hHd hb hk7 hF7 hO7 hH7 hb7 hcs c1 q1 q2 hof hK7
            go_upto_region 13 with fail
            generalize w7.setCell ⟨gh, kk, none⟩ (.bool true) = w8 at *
            go_wp2_with fail
            go_roundw
            case rel => exact ⟨k + 1, mp', P.set kk (some pp), by omega, by omega, by go_num, hF8, HOf.out, hO8, hH8, hb8⟩
            case measure => simp [intOf]; omega
        · by_cases hk1 : k < es.length
          · have hk2 : k = 40 := by omega
            subst hk2
            go_wp2_with fail
            go_meet
            exact ⟨mp, P, hF, hof, hO, hHd, hb⟩
          · have hk2 : k = es.length := by omega
            subst hk2
            go_wp2_with fail
            go_meet
            exact ⟨mp, P, hF, hof, hO, hHd, hb⟩
    case rest =>
    obtain ⟨mp, P, hF, hof, hO, hHd, hb⟩ := hcut
    rename World => wx
    clear hFe hofe hOe hH hbE HR
    have hPl := hF.len
    rw [hkN] at hPl
    have HLk := Lib.hid (spLacks_any hF)
    have HLA := Lib.hid (lk_at P)
    have hFl := fill_start P
    have HFA := Lib.hid (fun P' (h : Fill P P' (spLk P P.length).length) => fill_all h hPl)
    have HFP := Lib.hid (fun P' (j i : Nat) (h : Fill P P' j) (hj : (spLk P P.length)[j]? = some (i : Int)) (d : ByteArray) (hi : i < P'.length) => fill_put h hj d hi)
    have HFK := Lib.hid (fun P' (j i : Nat) (h : Fill P P' j) (hj : (spLk P P.length)[j]? = some (i : Int)) (d : ByteArray) (hi : P'[i]? = some (some d)) => fill_keep h hj d hi)
    have hnl := spLk_len P P.length
    generalize spLk P P.length = lk at *
    obtain ⟨m, hm⟩ : ∃ m, lk.length = m := ⟨_, rfl⟩
    have HM := Lib.hid hm
    rw [hm] at hnl
    go_wp2_with fail
    refine HLk.out.mono ?_
    rintro e w6 ⟨v6, rfl, hO6, hk6⟩
    rw [HM.out] at hO6
    have hF6 := hF.later hk6
    have hOs6 := hO.later hk6
    have hH6 := hHd.later hk6
    have hb6 := hb.trans (hk6.mono hb.size)
    obtain ⟨a6, c6, rfl⟩ := hO6.formG
    generalize wx.heap.size = BK at hO6
    clear hF hO hHd hb hk6 HLk hm
    go_wp2_with fail
    go_loopw [83] (fun i wr => ∃ (j : Nat) (mp' : Option Nat) (P' : List (Option ByteArray)), j ≤ m ∧ i = .int .i64 j ∧ FIn wr BF gf 1 N 0 mp' P' ∧ Of t n P' ∧ Fill P P' j ∧ OwnE wr BK 3 1 (.slice a6 m c6) m (lk.map (Value.int .i64)) ∧ OwnE wr BL 9 1 (.slice (some ⟨g, off, none⟩) N cap) N xs ∧ OwnE wr gh 4 1 (.slice (some ⟨gh, 0, none⟩) N N) N (hadV P) ∧ Below w.heap.size w wr) (fun i _ => m - (intOf i).toNat)
    case atStart => exact ⟨0, mp, P, Nat.zero_le _, rfl, hF6, hof, hFl, hO6, hOs6, hH6, hb6⟩
    case round =>
      obtain ⟨j, mp', P', hj, rfl, hF, hof', hfill, hOK, hO, hHd, hb⟩ := hrel
      clear hF6 hOs6 hH6 hb6 hO6 hof hFl
      have hPl' := hF.len
      rw [hkN] at hPl'
      by_cases hjlt : j < m
      · obtain ⟨x, hx⟩ : ∃ x, lk[j]? = some x := ⟨_, List.getElem?_eq_getElem (by have := HM.out; omega)⟩
        obtain ⟨i, rfl, hiP⟩ := HLA.out j x hx
        have hiN : i < N := by have := (List.getElem?_eq_some_iff.1 hiP).1; omega
        obtain ⟨gk, ok, capk, ek, _, _, _, _, hck⟩ := hOK.1.cells (by omega)
        simp only [Value.slice.injEq, true_and] at ek
        obtain ⟨rfl, rfl⟩ := ek
        have ck := (hck j _ (show (lk.map (Value.int .i64))[j]? = some (.int .i64 (i : Int)) by rw [List.getElem?_map, hx]; rfl)).1
        have cL := HL1.out wr hO i hiN
        obtain ⟨cH, _⟩ := HH1.out wr P hHd i none hiP
        simp only [Option.isSome] at cH
        have hbp := of_size hof' hcn.2
        rw [hPl'] at hbp
        have hps := HPL.out i
        obtain ⟨o, ho⟩ : ∃ o, P'[i]? = some o := ⟨_, List.getElem?_eq_getElem (by omega)⟩
        clear hck
        cases o with
        | some d =>
          obtain rfl := hof' i d ho
          have HPu := Lib.hid (spPutTwice hF i (spP t n i) (spP t n i) ho)
          rw [hkN] at HPu
          have HFl := Lib.hid (HFK.out P' j i hfill hx (spP t n i) ho)
          generalize spP t n i = pp at *
          clear ho hx hiP
          go_wp2_with fail
          refine HPu.out.mono ?_
          rintro e w7 ⟨rfl, hk7⟩
          have hF7 := hF.later hk7
          have hOK7 := hOK.later hk7
          have hO7 := hO.later hk7
          have hH7 := hHd.later hk7
          have hb7 := hb.trans (hk7.mono hb.size)
          clear hF hOK hO hHd hb hk7 ck cL cH hfill HPu
          go_wp2_with fail
          go_roundw
          case rel => exact ⟨j + 1, mp', P', by omega, by go_num, hF7, hof', HFl.out, hOK7, hO7, hH7, hb7⟩
          case measure => simp [intOf]; omega
        | none =>
          have HPu := Lib.hid (spPutNew hF i (spP t n i) ho (by omega))
          rw [hkN] at HPu
          obtain ⟨r, hr, hr4⟩ : ∃ r : Int, (if spH P' + 1 = N then (2 : Int) else 1) = r ∧ (r == 4) = false := ⟨_, rfl, by split <;> rfl⟩
          rw [hr] at HPu
          have HFl := Lib.hid (HFP.out P' j i hfill hx (spP t n i) (by omega))
          have HOf := Lib.hid (of_set hof' i)
          generalize spP t n i = pp at *
          clear ho hx hiP hr
          go_wp2_with fail
          refine HPu.out.mono ?_
          rintro e w7 ⟨rfl, ⟨mp7, hF7, _⟩, hk7, hK7⟩
          have hOK7 := hK7.row hF hOK (by decide)
          have hO7 := hK7.row hF hO (by decide)
          have hH7 := hK7.row hF hHd (by decide)
          have hb7 := hb.trans (hk7.mono hBF)
          clear hF hOK hO hHd hb hk7 hK7 ck cL cH hfill HPu hof'
          go_wp2_with fail
          go_roundw
          case rel => exact ⟨j + 1, mp7, P'.set i (some pp), by omega, by go_num, hF7, HOf.out, HFl.out, hOK7, hO7, hH7, hb7⟩
          case measure => simp [intOf]; omega
      · obtain rfl : j = m := by omega
        rw [← HM.out] at hfill
        have hall := HFA.out P' hfill
        obtain ⟨hh, hby⟩ := of_all hof' hPl' hall
        have hbp := of_size hof' hcn.2
        rw [hPl'] at hbp
        have HDt := Lib.hid (spDataYes hF (by rw [hkN]; exact hh) (by omega))
        rw [hPl', hby, HCA.out] at HDt
        clear hh hby hall hfill
        go_wp2_with fail
        refine HDt.out.mono ?_
        rintro e w7 ⟨rfl, hk7⟩
        have hb7 := hb.trans (hk7.mono hb.size)
        clear hF hOK hO hHd hb hk7 HDt
        go_wp2_with fail
        go_ret
        exact ⟨by simp, hb7⟩
end splitBack
end Go.Proofs.Ytihbhgimceglnaa
