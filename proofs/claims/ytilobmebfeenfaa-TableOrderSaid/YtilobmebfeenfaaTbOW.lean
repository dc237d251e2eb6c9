/- TableOrder: the walk. -/
import Derived.Test.YtilobmebfeenfaaTbOM
namespace Go.Proofs.Ytilobmebfeenfaa
open Go.RowKit Go.Maps
set_option linter.unusedVariables false
set_option linter.unusedSimpArgs false
namespace tableOrder
set_option maxRecDepth 100000 in
set_option maxHeartbeats 12800000 in
theorem walk (p1 : Option Addr) (len1 cap1 : Nat) (w : World) (w1 : Recs tbEntP w p1 len1) (hl1 : len1 ≤ 9223372036854775807) :
    Calls Try.prog 5 #[.slice p1 len1 cap1] w fun e w' => e = .returned (.bool true) ∧ Below w.heap.size w w' := by
  have HACT := Lib.hid (fun (k : Nat) (hk : k < len1) (W : World) (hb : Below w.heap.size w W) => tbEnt_at w1 hb hk)
  clear w1
  obtain ⟨i0, hi, hz0, hz1, hz2⟩ := info_parts tb_refInfo
  go_enter Try.func5, Try.ntmps5
  go_wp2_with fail
  refine (tbAwake_any w).mono ?_
  rintro e wa ⟨rfl, hba⟩
  have hgs : w.heap.size ≤ wa.heap.size := hba.size
  have hal : Below wa.heap.size wa (wa.alloc (.map #[] 0)) := (Below.refl _ _).alloc (Nat.le_refl _) _
  have hM0 := mapB_new wa
  have hb0 := hba.trans (hal.mono hgs)
  have hmm := @run_makeMap Try.prog
  go_upto_region 5 with fail
  clear hmm
  generalize (wa.alloc (.map #[] 0)) = wb at *
  generalize wa.heap.size = bm at *
  clear hba hal
  go_wp2_with fail
  go_loopw [3, 5] (fun s3 s5 wr => ∃ (k : Nat) (O : List TB) (f : Int → Option Bool), k ≤ len1 ∧ k ≤ 15 ∧ s5 = .int .i64 k ∧ O.length ≤ k ∧ Hid (OwnE wr w.heap.size 54 3 s3 O.length (tbV O)) ∧ Hid (MapB wr bm k f) ∧ Hid (TbSeen O f) ∧ Hid (TbOnce O) ∧ Hid (Below w.heap.size w wr)) (fun _ s5 _ => 15 - (intOf s5).toNat)
  case atStart => exact ⟨0, [], fun _ => none, Nat.zero_le _, by omega, rfl, Nat.le_refl _, Lib.hid (ownE_nil _ _ _ _), Lib.hid hM0, Lib.hid tbSeen_new, Lib.hid List.Pairwise.nil, Lib.hid hb0⟩
  case round =>
    obtain ⟨k, O, f, hk, hk15, rfl, hOk, HO, HM, HS, HU, HB⟩ := hrel
    clear hM0 hb0
    by_cases hlt : k < len1 ∧ k < 15
    · obtain ⟨hlt, hlt15⟩ := hlt
      obtain ⟨ab, off, rfl, hab, r, hwr, e0, e1, e2⟩ := HACT.out k hlt wr HB.out
      have hdk : decide ((k : Int) < (len1 : Int)) = true := decide_eq_true (by omega)
      have hdk2 : decide ((k : Int) < 15) = true := decide_eq_true (by omega)
      have hki : (k : Int) < len1 := by omega
      have hM := HM.out
      have hlk := hM.eq hwr
      have hbm : bm < wr.heap.size := by
        obtain ⟨es, c, hh⟩ := hM.isMap
        exact lt_of_block hh
      cases hs : (f r.id).getD false with
      | true =>
        rw [hs] at hlk
        have HS2 := Lib.hid (HS.out.again hs)
        go_wp2_with (at_mapUpdate; refine wpList_putB _ rfl _ _ _ rfl bm k f rfl hM ?m0 r.id true rfl ?m1 rfl trivial ?_)
        case m0 => unfold maxLen; omega
        case m1 => exact hwr
        intro w6 hM6 hg6
        have hO6 := HO.out.keep hg6.size (fun q cs q1 q2 => hg6.block q (lt_of_block q2) (fun e => by
          cases e
          obtain ⟨es, c, hh⟩ := hM.isMap
          rw [q2] at hh; cases hh))
        have hB6 := HB.out.grown hg6 HB.out.size (fun q hq => by cases hq; exact hgs)
        go_wp2_with fail
        go_roundw
        case rel => exact ⟨k + 1, O, _, by omega, by omega, by go_num, by omega, Lib.hid hO6, Lib.hid hM6, HS2, HU, Lib.hid hB6⟩
        case measure => simp [intOf]; omega
      | false =>
        rw [hs] at hlk
        have hne : ∀ x ∈ O, x.id ≠ r.id := fun x hx e => by
          have := (HS.out r.id).2 ⟨x, hx, e⟩
          rw [hs] at this; cases this
        have HS2 := Lib.hid (HS.out.add r)
        have HU2 := Lib.hid (tbOnce_snoc HU.out r hne)
        have hO := HO.out
        have hBw := HB.out
        have hOs := Lib.hid (tbV_snoc O r)
        clear hne hs
        go_wp2_with (at_builtin; refine append_recG (W := w) rfl (.tmp 33) (.tmp 38) 47 rfl 54 i0 (.agg #[.int .i64 0, .bool false, .int .i64 0]) 3 24 Try.underlying47 hi hz0 hz1 hz2 rfl (by decide) w.heap.size _ _ _ rfl hO #[.int .i64 r.id, .bool r.up, .int .i64 r.rate] rfl rfl ?d0 ?d1 ?d2 hBw.size w.heap.size (Nat.le_refl _) hBw ?_)
        case d0 => exact ⟨rfl, rfl, rfl⟩
        case d1 => unfold maxLen; omega
        case d2 => omega
        intro v5 w5 hO5 hb5 hg5 _
        have e0' : w5.cell? ⟨ab, off + k * 3, none⟩ = some (.int .i64 r.id) := by rw [hb5.cell (p := ⟨ab, off + k * 3, none⟩) hab, ← hBw.cell (p := ⟨ab, off + k * 3, none⟩) hab]; exact e0
        have hal2 : Below wr.heap.size wr (wr.alloc (.cells #[.int .i64 r.id, .bool r.up, .int .i64 r.rate] 54)) := (Below.refl _ _).alloc (Nat.le_refl _) _
        have hM5 : MapB w5 bm k f := (hM.same (hal2.block bm hbm)).kept hg5 (fun e => by
          obtain ⟨cs, hcs⟩ := hO.2 bm e.symm
          obtain ⟨es, c, hh⟩ := hM.isMap
          rw [hcs] at hh; cases hh)
        clear e0 e1 e2 hg5
        go_wp2_with (at_mapUpdate; refine wpList_putB _ rfl _ _ _ rfl bm k f rfl hM5 ?m0 r.id true rfl ?m1 rfl trivial ?_)
        case m0 => unfold maxLen; omega
        case m1 => exact hwr
        intro w6 hM6 hg6
        have hO6 := hO5.keep hg6.size (fun q cs q1 q2 => hg6.block q (lt_of_block q2) (fun e => by
          cases e
          obtain ⟨es, c, hh⟩ := hM5.isMap
          rw [q2] at hh; cases hh))
        have hB6 := hb5.grown hg6 hb5.size (fun q hq => by cases hq; exact hgs)
        have hll : (O ++ [r]).length = O.length + 1 := by simp
        go_wp2_with fail
        go_roundw
        case rel => exact ⟨k + 1, O ++ [r], _, by omega, by omega, by go_num, by omega, Lib.hid (by rw [hll, hOs.out]; exact hO6), Lib.hid hM6, HS2, HU2, Lib.hid hB6⟩
        case measure => simp [intOf]; omega
    · by_cases hq : k < len1
      · have hd1 : decide ((k : Int) < (len1 : Int)) = true := decide_eq_true (by omega)
        have hd2 : decide ((k : Int) < 15) = false := decide_eq_false (by omega)
        clear hlt
        have hO := HO.out
        have hBw := HB.out
        have hU := HU.out
        have hN15 : O.length ≤ 15 := by omega
        clear HO HM HS HB HACT
        go_wp2_with fail
        refine (tbNew_any 15 wr).mono ?_
        rintro e wt ⟨gt, rfl, hT1, hbt⟩
        have hB2 := hBw.trans (hbt.mono hBw.size)
        go_wp2_with fail
        refine (tbNew_any 15 wt).mono ?_
        rintro e wu ⟨gu, rfl, hU1, hbu⟩
        have hB3 := hB2.trans (hbu.mono hB2.size)
        have hle : wr.heap.size ≤ wt.heap.size := hbt.size
        have hTwo : TbTwo wu wr.heap.size gt gu (.slice none 0 0) (.slice none 0 0) [] [] := ⟨hT1.later hbu, ⟨Nat.le_trans hle hU1.bs, hU1.at3, hU1.row.base hle, hU1.up, hU1.ln⟩, by have := hT1.at3.lt; have := hU1.bs; omega, fun k hk => by cases hk⟩
        have hO3 := (hO.later hbt).later hbu
        obtain ⟨ra, rc, rfl, hrc, hrc2, _⟩ := ownE_rdB hO3
        have hg : w.heap.size ≤ wr.heap.size := hBw.size
        generalize wr.heap.size = B at hTwo hg
        clear hT1 hU1 hbt hbu hO hBw hB2 hle
        have HOn := Lib.hid (fun (q : Nat) (r : TB) (hr : O[q]? = some r) => And.intro (tbFold_take O q r hr) (And.intro (tbFold_ne hU q r hr) (tbFold_room hU q r hr)))
        have HRv := Lib.hid (fun (q : Nat) (r : TB) (hr : O.reverse[q]? = some r) => And.intro (tbFold_take O.reverse q r hr) (And.intro (tbFold_ne (tbOnce_rev hU) q r hr) (tbFold_room (tbOnce_rev hU) q r hr)))
        have HFR := Lib.hid (tbFold_rev hU)
        have HTK : Hid (O.take O.length = O ∧ O.reverse.take O.length = O.reverse) := Lib.hid ⟨List.take_length, by rw [← List.length_reverse, List.take_length]⟩
        clear hU HU
        go_wp2_with fail
        go_loopw [56] (fun i W5 => ∃ (q : Nat) (vt vu : Value), q ≤ O.length ∧ i = .int .i64 q ∧ Hid (OwnE W5 w.heap.size 54 3 (.slice ra O.length rc) O.length (tbV O)) ∧ Hid (TbTwo W5 B gt gu vt vu (tbFold (O.take q)) (tbFold (O.reverse.take q))) ∧ Hid (Below w.heap.size w W5)) (fun i _ => O.length - (intOf i).toNat)
        case atStart => exact ⟨0, _, _, Nat.zero_le _, rfl, Lib.hid hO3, Lib.hid hTwo, Lib.hid hB3⟩
        case round =>
          obtain ⟨q, vt, vu, hq, rfl, HO, HT, HB⟩ := hrel
          clear hO3 hTwo hB3
          by_cases hlq : q < O.length
          · obtain ⟨r1, hr1⟩ : ∃ r, O[q]? = some r := ⟨_, List.getElem?_eq_getElem hlq⟩
            obtain ⟨jq, hjq⟩ : ∃ j, O.length - 1 - q = j := ⟨_, rfl⟩
            have hjl : jq < O.length := by omega
            obtain ⟨r2, hr2⟩ : ∃ r, O[jq]? = some r := ⟨_, List.getElem?_eq_getElem hjl⟩
            have hr3 : O.reverse[q]? = some r2 := by rw [List.getElem?_reverse (by omega), hjq]; exact hr2
            have hqi : (q : Int) < O.length := by omega
            have hji : (jq : Int) < O.length := by omega
            have hwj1 : IntKind.i64.wrap ((O.length : Int) - 1) = (O.length : Int) - 1 := IntWalk.i64_in _ ⟨by omega, by omega⟩
            have hwj2 : IntKind.i64.wrap ((O.length : Int) - 1 - (q : Int)) = (jq : Int) := by rw [IntWalk.i64_in _ ⟨by omega, by omega⟩]; omega
            obtain ⟨xa, xc, ex, _, _, hrd⟩ := ownE_rdB HO.out
            cases ex
            obtain ⟨g, off, rfl, c0, c1, c2⟩ := hrd q r1 hr1
            have HA := Lib.hid (HT.out.set r1 (HOn.out q r1 hr1).2.1 (HOn.out q r1 hr1).2.2)
            have HTA := Lib.hid (HOn.out q r1 hr1).1
            have HTB := Lib.hid (HRv.out q r2 hr3).1
            have HRR := Lib.hid (HRv.out q r2 hr3).2
            go_wp2_with fail
            refine HA.out.mono ?_
            rintro e w6 ⟨x6, vt6, rfl, hT6, hb6, hsz6, hk6⟩
            have hO6 := HO.out.keep hsz6 (fun k cs q1 q2 => hk6 k cs _ (by decide) (by decide) q2)
            have hB6 := HB.out.trans (hb6.mono hg)
            rw [← HTA.out] at hT6
            obtain ⟨xa, xc, ex, _, _, hrd6⟩ := ownE_rdB hO6
            cases ex
            obtain ⟨g', off', eg, d0, d1, d2⟩ := hrd6 jq r2 hr2
            cases eg
            have HC := Lib.hid (hT6.swap.set r2 HRR.out.1 HRR.out.2)
            clear HA c0 c1 c2 hrd hrd6
            go_wp2_with fail
            refine HC.out.mono ?_
            rintro e w7 ⟨x7, vu7, rfl, hT7, hb7, hsz7, hk7⟩
            have hO7 := hO6.keep hsz7 (fun k cs q1 q2 => hk7 k cs _ (by decide) (by decide) q2)
            have hB7 := hB6.trans (hb7.mono hg)
            rw [← HTB.out] at hT7
            have hT7 := hT7.swap
            clear HC d0 d1 d2
            go_wp2_with fail
            go_roundw
            case rel => exact ⟨q + 1, vt6, vu7, by omega, by go_num, Lib.hid hO7, Lib.hid hT7, Lib.hid hB7⟩
            case measure => simp [intOf]; omega
          · obtain rfl : q = O.length := by omega
            have hT := HT.out
            rw [HTK.out.1, HTK.out.2, HFR.out] at hT
            have hB := HB.out
            clear HT HB HO HOn HRv HFR HTK hlq
            generalize tbFold O = F at hT
            have hF15 := hT.t.ln
            have HA := Lib.hid (tbAll_any hT.t)
            go_wp2_with fail
            refine HA.out.mono ?_
            rintro e w6 ⟨v6, rfl, hO6, hb6⟩
            have hT6 := hT.later hb6
            have hB6 := hB.trans (hb6.mono hB.size)
            have HC := Lib.hid (tbAll_any hT6.u)
            clear HA hT hB
            go_wp2_with fail
            refine HC.out.mono ?_
            rintro e w7 ⟨v7, rfl, hO7, hb7⟩
            have hT7 := hT6.later hb7
            have hB7 := hB6.trans (hb7.mono hB6.size)
            have hO67 := hO6.later hb7
            have HX := Lib.hid (fun W (h : Below w7.heap.size w7 W) => ownE_rdB (hO67.later h))
            have HY := Lib.hid (fun W (h : Below w7.heap.size w7 W) => ownE_rdB (hO7.later h))
            obtain ⟨xa, xc, rfl, _, _, _⟩ := ownE_rdB hO67
            obtain ⟨ya, yc, rfl, _, _, _⟩ := ownE_rdB hO7
            have HV := Lib.hid (tbVersion_q hT7.t)
            have HW := Lib.hid (tbVersion_q hT7.u)
            clear HC hO6 hO7 hO67 hb6 hb7 hT6 hB6
            go_wp2_with fail
            refine HV.out.mono ?_
            rintro e w7' ⟨rfl, hq7⟩
            subst hq7
            rename World => w7
            go_wp2_with fail
            refine HW.out.mono ?_
            rintro e w7' ⟨rfl, hq7⟩
            subst hq7
            rename World => w7
            go_wp2_with fail
            go_loopw [94] (fun i W9 => ∃ q : Nat, q ≤ F.length ∧ i = .int .i64 q ∧ Below w7.heap.size w7 W9) (fun i _ => F.length - (intOf i).toNat)
            case atStart => exact ⟨0, Nat.zero_le _, rfl, Below.refl _ _⟩
            case round =>
              obtain ⟨q, hq, rfl, hb9⟩ := hrel
              by_cases hlf : q < F.length
              · obtain ⟨r, hr⟩ : ∃ r, F[q]? = some r := ⟨_, List.getElem?_eq_getElem hlf⟩
                have hqi : (q : Int) < F.length := by omega
                obtain ⟨xa1, xc1, ex, _, _, hcx⟩ := HX.out wr hb9
                obtain ⟨ya1, yc1, ey, _, _, hcy⟩ := HY.out wr hb9
                cases ex
                cases ey
                obtain ⟨gx, ox, rfl, x0, x1, x2⟩ := hcx q r hr
                obtain ⟨gy, oy, rfl, y0, y1, y2⟩ := hcy q r hr
                go_upto_region 26 with fail
                go_quiet (fail)
                go_wp2_with fail
                go_roundw
                case rel => exact ⟨q + 1, by omega, by go_num, below_drewN hb9 _⟩
                case measure => simp [intOf]; omega
              · obtain rfl : q = F.length := by omega
                go_wp2_with fail
                go_ret
                exact ⟨rfl, hB7.trans (hb9.mono hB7.size)⟩
      · have hd1 : decide ((k : Int) < (len1 : Int)) = false := decide_eq_false (by omega)
        clear hlt
        have hO := HO.out
        have hBw := HB.out
        have hU := HU.out
        have hN15 : O.length ≤ 15 := by omega
        clear HO HM HS HB HACT
        go_wp2_with fail
        refine (tbNew_any 15 wr).mono ?_
        rintro e wt ⟨gt, rfl, hT1, hbt⟩
        have hB2 := hBw.trans (hbt.mono hBw.size)
        go_wp2_with fail
        refine (tbNew_any 15 wt).mono ?_
        rintro e wu ⟨gu, rfl, hU1, hbu⟩
        have hB3 := hB2.trans (hbu.mono hB2.size)
        have hle : wr.heap.size ≤ wt.heap.size := hbt.size
        have hTwo : TbTwo wu wr.heap.size gt gu (.slice none 0 0) (.slice none 0 0) [] [] := ⟨hT1.later hbu, ⟨Nat.le_trans hle hU1.bs, hU1.at3, hU1.row.base hle, hU1.up, hU1.ln⟩, by have := hT1.at3.lt; have := hU1.bs; omega, fun k hk => by cases hk⟩
        have hO3 := (hO.later hbt).later hbu
        obtain ⟨ra, rc, rfl, hrc, hrc2, _⟩ := ownE_rdB hO3
        have hg : w.heap.size ≤ wr.heap.size := hBw.size
        generalize wr.heap.size = B at hTwo hg
        clear hT1 hU1 hbt hbu hO hBw hB2 hle
        have HOn := Lib.hid (fun (q : Nat) (r : TB) (hr : O[q]? = some r) => And.intro (tbFold_take O q r hr) (And.intro (tbFold_ne hU q r hr) (tbFold_room hU q r hr)))
        have HRv := Lib.hid (fun (q : Nat) (r : TB) (hr : O.reverse[q]? = some r) => And.intro (tbFold_take O.reverse q r hr) (And.intro (tbFold_ne (tbOnce_rev hU) q r hr) (tbFold_room (tbOnce_rev hU) q r hr)))
        have HFR := Lib.hid (tbFold_rev hU)
        have HTK : Hid (O.take O.length = O ∧ O.reverse.take O.length = O.reverse) := Lib.hid ⟨List.take_length, by rw [← List.length_reverse, List.take_length]⟩
        clear hU HU
        go_wp2_with fail
        go_loopw [56] (fun i W5 => ∃ (q : Nat) (vt vu : Value), q ≤ O.length ∧ i = .int .i64 q ∧ Hid (OwnE W5 w.heap.size 54 3 (.slice ra O.length rc) O.length (tbV O)) ∧ Hid (TbTwo W5 B gt gu vt vu (tbFold (O.take q)) (tbFold (O.reverse.take q))) ∧ Hid (Below w.heap.size w W5)) (fun i _ => O.length - (intOf i).toNat)
        case atStart => exact ⟨0, _, _, Nat.zero_le _, rfl, Lib.hid hO3, Lib.hid hTwo, Lib.hid hB3⟩
        case round =>
          obtain ⟨q, vt, vu, hq, rfl, HO, HT, HB⟩ := hrel
          clear hO3 hTwo hB3
          by_cases hlq : q < O.length
          · obtain ⟨r1, hr1⟩ : ∃ r, O[q]? = some r := ⟨_, List.getElem?_eq_getElem hlq⟩
            obtain ⟨jq, hjq⟩ : ∃ j, O.length - 1 - q = j := ⟨_, rfl⟩
            have hjl : jq < O.length := by omega
            obtain ⟨r2, hr2⟩ : ∃ r, O[jq]? = some r := ⟨_, List.getElem?_eq_getElem hjl⟩
            have hr3 : O.reverse[q]? = some r2 := by rw [List.getElem?_reverse (by omega), hjq]; exact hr2
            have hqi : (q : Int) < O.length := by omega
            have hji : (jq : Int) < O.length := by omega
            have hwj1 : IntKind.i64.wrap ((O.length : Int) - 1) = (O.length : Int) - 1 := IntWalk.i64_in _ ⟨by omega, by omega⟩
            have hwj2 : IntKind.i64.wrap ((O.length : Int) - 1 - (q : Int)) = (jq : Int) := by rw [IntWalk.i64_in _ ⟨by omega, by omega⟩]; omega
            obtain ⟨xa, xc, ex, _, _, hrd⟩ := ownE_rdB HO.out
            cases ex
            obtain ⟨g, off, rfl, c0, c1, c2⟩ := hrd q r1 hr1
            have HA := Lib.hid (HT.out.set r1 (HOn.out q r1 hr1).2.1 (HOn.out q r1 hr1).2.2)
            have HTA := Lib.hid (HOn.out q r1 hr1).1
            have HTB := Lib.hid (HRv.out q r2 hr3).1
            have HRR := Lib.hid (HRv.out q r2 hr3).2
            go_wp2_with fail
            refine HA.out.mono ?_
            rintro e w6 ⟨x6, vt6, rfl, hT6, hb6, hsz6, hk6⟩
            have hO6 := HO.out.keep hsz6 (fun k cs q1 q2 => hk6 k cs _ (by decide) (by decide) q2)
            have hB6 := HB.out.trans (hb6.mono hg)
            rw [← HTA.out] at hT6
            obtain ⟨xa, xc, ex, _, _, hrd6⟩ := ownE_rdB hO6
            cases ex
            obtain ⟨g', off', eg, d0, d1, d2⟩ := hrd6 jq r2 hr2
            cases eg
            have HC := Lib.hid (hT6.swap.set r2 HRR.out.1 HRR.out.2)
            clear HA c0 c1 c2 hrd hrd6
            go_wp2_with fail
            refine HC.out.mono ?_
            rintro e w7 ⟨x7, vu7, rfl, hT7, hb7, hsz7, hk7⟩
            have hO7 := hO6.keep hsz7 (fun k cs q1 q2 => hk7 k cs _ (by decide) (by decide) q2)
            have hB7 := hB6.trans (hb7.mono hg)
            rw [← HTB.out] at hT7
            have hT7 := hT7.swap
            clear HC d0 d1 d2
            go_wp2_with fail
            go_roundw
            case rel => exact ⟨q + 1, vt6, vu7, by omega, by go_num, Lib.hid hO7, Lib.hid hT7, Lib.hid hB7⟩
            case measure => simp [intOf]; omega
          · obtain rfl : q = O.length := by omega
            have hT := HT.out
            rw [HTK.out.1, HTK.out.2, HFR.out] at hT
            have hB := HB.out
            clear HT HB HO HOn HRv HFR HTK hlq
            generalize tbFold O = F at hT
            have hF15 := hT.t.ln
            have HA := Lib.hid (tbAll_any hT.t)
            go_wp2_with fail
            refine HA.out.mono ?_
            rintro e w6 ⟨v6, rfl, hO6, hb6⟩
            have hT6 := hT.later hb6
            have hB6 := hB.trans (hb6.mono hB.size)
            have HC := Lib.hid (tbAll_any hT6.u)
            clear HA hT hB
            go_wp2_with fail
            refine HC.out.mono ?_
            rintro e w7 ⟨v7, rfl, hO7, hb7⟩
            have hT7 := hT6.later hb7
            have hB7 := hB6.trans (hb7.mono hB6.size)
            have hO67 := hO6.later hb7
            have HX := Lib.hid (fun W (h : Below w7.heap.size w7 W) => ownE_rdB (hO67.later h))
            have HY := Lib.hid (fun W (h : Below w7.heap.size w7 W) => ownE_rdB (hO7.later h))
            obtain ⟨xa, xc, rfl, _, _, _⟩ := ownE_rdB hO67
            obtain ⟨ya, yc, rfl, _, _, _⟩ := ownE_rdB hO7
            have HV := Lib.hid (tbVersion_q hT7.t)
            have HW := Lib.hid (tbVersion_q hT7.u)
            clear HC hO6 hO7 hO67 hb6 hb7 hT6 hB6
            go_wp2_with fail
            refine HV.out.mono ?_
            rintro e w7' ⟨rfl, hq7⟩
            subst hq7
            rename World => w7
            go_wp2_with fail
            refine HW.out.mono ?_
            rintro e w7' ⟨rfl, hq7⟩
            subst hq7
            rename World => w7
            go_wp2_with fail
            go_loopw [94] (fun i W9 => ∃ q : Nat, q ≤ F.length ∧ i = .int .i64 q ∧ Below w7.heap.size w7 W9) (fun i _ => F.length - (intOf i).toNat)
            case atStart => exact ⟨0, Nat.zero_le _, rfl, Below.refl _ _⟩
            case round =>
              obtain ⟨q, hq, rfl, hb9⟩ := hrel
              by_cases hlf : q < F.length
              · obtain ⟨r, hr⟩ : ∃ r, F[q]? = some r := ⟨_, List.getElem?_eq_getElem hlf⟩
                have hqi : (q : Int) < F.length := by omega
                obtain ⟨xa1, xc1, ex, _, _, hcx⟩ := HX.out wr hb9
                obtain ⟨ya1, yc1, ey, _, _, hcy⟩ := HY.out wr hb9
                cases ex
                cases ey
                obtain ⟨gx, ox, rfl, x0, x1, x2⟩ := hcx q r hr
                obtain ⟨gy, oy, rfl, y0, y1, y2⟩ := hcy q r hr
                go_upto_region 26 with fail
                go_quiet (fail)
                go_wp2_with fail
                go_roundw
                case rel => exact ⟨q + 1, by omega, by go_num, below_drewN hb9 _⟩
                case measure => simp [intOf]; omega
              · obtain rfl : q = F.length := by omega
                go_wp2_with fail
                go_ret
                exact ⟨rfl, hB7.trans (hb9.mono hB7.size)⟩
end tableOrder
end Go.Proofs.Ytilobmebfeenfaa
