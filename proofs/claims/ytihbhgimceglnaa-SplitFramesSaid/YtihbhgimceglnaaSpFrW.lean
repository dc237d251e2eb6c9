/- SplitFrames: the walk. -/
import Derived.Test.YtihbhgimceglnaaSpY
import Derived.Test.YtihbhgimceglnaaSpU
namespace Go.Proofs.Ytihbhgimceglnaa
open Go.RowKit
set_option linter.unusedVariables false
set_option linter.unusedSimpArgs false
open splitBack
theorem spAct2_at {w : World} {a : Option Addr} {n k : Nat} (h : Recs spActP w a n) (hk : k < n) :
    ∃ b off, a = some ⟨b, off, none⟩ ∧ b < w.heap.size ∧ ∃ (x c : Int) (d : ByteArray), (∀ W, Below w.heap.size w W → W.cell? ⟨b, off + k * 3, none⟩ = some (.int .i64 x) ∧ W.cell? ⟨b, off + k * 3 + 1, none⟩ = some (.int .i64 c) ∧ W.cell? ⟨b, off + k * 3 + 2, none⟩ = some (.string d)) ∧ d.size ≤ 9223372036854775807 := by
  obtain ⟨b, off, rfl, hlt, x, c, d, hd, hs⟩ := spAct_at h (Below.refl _ _) hk
  exact ⟨b, off, rfl, hlt, x, c, d, hd, hs⟩
theorem AtS.keepF {T : TypeId} {W W' : World} {g gf base : Nat} {cs : Array Value} {t cnt first : Int} {mp : Option Nat} {P : List (Option ByteArray)} (h : AtS T W g cs) (hF : FIn W base gf t cnt first mp P) (hK : KeepF gf mp W W') (hT : T ≠ 116) : AtS T W' g cs := by
  have h1 : g ≠ gf := h.ne hF.at5 hT
  unfold AtS at h ⊢
  rw [hK.block g (lt_of_block h) h1 (fun e => by
    rcases hF.mem with ⟨h1, _⟩ | ⟨b, h1, _, hm, _⟩
    · rw [h1] at e; cases e
    · rw [h1] at e
      cases e
      obtain ⟨es, cl, hm⟩ := hm.isMap
      rw [h] at hm
      cases hm)]
  exact h
theorem FIn.keepC {W W' : World} {N base gf gc : Nat} {t cnt first t' cnt' first' : Int} {mp mc : Option Nat} {P Q : List (Option ByteArray)} (h : FIn W N gc t' cnt' first' mc Q) (hF : FIn W base gf t cnt first mp P) (hK : KeepF gf mp W W') (hN : gf < N) (hm : ∀ b, mp = some b → b < N) : FIn W' N gc t' cnt' first' mc Q := by
  have hb := h.bs
  refine h.same (hK.block gc h.at5.lt (by omega) (fun e => by have := hm gc e; omega)) (fun b e => ?_)
  obtain ⟨h1, h2⟩ := h.mlt b e
  exact hK.block b h2 (by omega) (fun e' => by have := hm b e'; omega)
namespace splitFrames
set_option maxRecDepth 100000 in
set_option maxHeartbeats 6400000 in
theorem walk (a0 a1 : Int) (p2 : Option Addr) (len2 cap2 : Nat) (w0 : (Lit.int .u32 a0).wf = true) (w1 : (Lit.int .i64 a1).wf = true) (w : World) (w2 : Recs spActP w p2 len2) (hl2 : len2 ≤ 9223372036854775807) :
    Calls Try.prog 4 #[.int .u32 a0, .int .i64 a1, .slice p2 len2 cap2] w fun e w' => e = .returned (.bool true) ∧ Below w.heap.size w w' := by
  have ht : 0 ≤ a0 ∧ a0 < 4294967296 := by simp [Lit.wf, IntKind.min, IntKind.max, IntKind.signed, IntKind.bits] at w0; omega
  have hcv : IntKind.i64.wrap a0 = a0 := IntWalk.i64_in _ ⟨by omega, by omega⟩
  have HACT := Lib.hid (fun (k : Nat) (hk : k < len2) => spAct2_at w2 hk)
  obtain ⟨ht0, ht1⟩ := ht
  clear w0 w1 w2
  go_enter Try.func4, Try.ntmps4
  go_wp2_with fail
  refine (spAwake_any w).mono ?_
  rintro e wa ⟨rfl, hba⟩
  go_wp2_with fail
  refine (spNew_any a0 a1 5 wa).mono ?_
  rintro e wb ⟨gf, rfl, hF, hkb⟩
  have hbb := hba.trans (hkb.mono hba.size)
  have hgBF : w.heap.size ≤ wa.heap.size := hba.size
  generalize wa.heap.size = BF at hF hgBF
  clear hkb hba
  go_wp2_with fail
  refine (refSpNew_any a0 a1 5 wb).mono ?_
  rintro e wc ⟨hv, pv, rfl, hh, hp, hkc⟩
  have hNk := spK_bd a1
  have hFc := hF.later hkc
  have hPl : (spNo (spK a1)).length = spK a1 := by simp [spNo]
  obtain ⟨N, hN⟩ : ∃ N, spK a1 = N := ⟨_, rfl⟩
  have HN := Lib.hid hN
  rw [hN] at hh hp hNk hPl hFc
  clear hN
  obtain ⟨hN1, hN2⟩ := hNk
  obtain ⟨ha, hc, rfl⟩ := hh.formG
  obtain ⟨pa, pc, rfl⟩ := hp.formG
  have hbc := hbb.trans (hkc.mono hbb.size)
  have hal : Below wc.heap.size wc (wc.alloc (.cells #[.int .i64 0, .int .i64 0, .slice none 0 0, .slice none 0 0] 33)) := (Below.refl _ _).alloc (Nat.le_refl _) _
  have hX := atS_new 33 wc wc.heap.size #[.int .i64 0, .int .i64 0, .slice none 0 0, .slice none 0 0] rfl
  have hgX : w.heap.size ≤ wc.heap.size := hbc.size
  clear hF hbb hkc hal
  have hB0 : spB (spNo N) ≤ 0 := Nat.le_of_eq (spB_no N)
  generalize spNo N = P0 at *
  obtain ⟨y0, y1, y2, y3⟩ := hX.cells4
  obtain ⟨y4, y5, y6, y7⟩ := hX.frees4
  have halx : Below wc.heap.size wc (wc.alloc (.cells #[.int .i64 a0, .int .i64 5, .slice ha N hc, .slice pa N pc] 33)) := (Below.refl _ _).alloc (Nat.le_refl _) _
  have hXe := atS_new 33 wc wc.heap.size #[.int .i64 a0, .int .i64 5, .slice ha N hc, .slice pa N pc] rfl
  have hFe := hFc.later halx
  have hhe := hh.later halx
  have hpe := hp.later halx
  have hbe := hbc.trans (halx.mono hbc.size)
  clear hFc hh hp hbc halx
  go_upto_region 4 with fail
  clear y0 y1 y2 y3 y4 y5 y6 y7
  generalize wc.alloc (.cells #[.int .i64 a0, .int .i64 5, .slice ha N hc, .slice pa N pc] 33) = wd at *
  generalize hg8 : wc.heap.size = g8 at *
  clear hg8 hX
  go_wp2_with fail
  go_loopw [9] (fun i wr => ∃ (k : Nat) (mp : Option Nat) (P : List (Option ByteArray)) (ha : Option Addr) (hc : Nat) (pa : Option Addr) (pc : Nat), k ≤ len2 ∧ k ≤ 30 ∧ i = .int .i64 k ∧ P.length = N ∧ spB P ≤ 20 * k ∧ FIn wr BF gf a0 a1 5 mp P ∧ AtS 33 wr g8 #[.int .i64 a0, .int .i64 5, .slice ha N hc, .slice pa N pc] ∧ OwnE wr 0 4 1 (.slice ha N hc) N (hadV P) ∧ OwnE wr 0 9 1 (.slice pa N pc) N (txV P) ∧ Below w.heap.size w wr) (fun i _ => 30 - (intOf i).toNat)
  case atStart => exact ⟨0, none, P0, ha, hc, pa, pc, Nat.zero_le _, by omega, rfl, hPl, by omega, hFe, hXe, hhe, hpe, hbe⟩
  case round =>
    obtain ⟨k, mp, P, ha, hc, pa, pc, hk, hk30, rfl, hPn, hBy, hF, hX, hh, hp, hb⟩ := hrel
    clear hFe hXe hhe hpe hbe hPl hB0
    by_cases hlt : k < len2 ∧ k < 30
    · obtain ⟨hlt, hlt30⟩ := hlt
      obtain ⟨ab, off, rfl, habl, x, c, dd, hD, hds⟩ := HACT.out k hlt
      have HD := Lib.hid hD
      obtain ⟨m0, m1, m2⟩ := hD wr hb
      have HCt := Lib.hid (cut_any dd 20 wr (by omega) (by omega))
      have hd20 := sp_cut_le dd 20
      generalize cutB dd 20 = d at HCt hd20
      obtain ⟨P', r, hq⟩ := spPut_ex P x c d
      have hlen := hq.len
      have hby := hq.bytes
      have hhad := hq.had
      have HQ := Lib.hid hq
      clear hD hq
      go_wp2_with fail
      refine HCt.out.mono ?_
      rintro e w5 ⟨rfl, hq5⟩
      subst hq5
      clear HCt m0 m1 m2
      go_upto_region 10 with fail
      have hA : Below wr.heap.size wr wr.drew := (Below.refl _ _).drew
      have hB : Below wr.heap.size wr (wr.alloc (.cells #[.int .i64 0, .int .i64 0, .slice none 0 0, .slice none 0 0] 33)).drew := ((Below.refl _ _).alloc (Nat.le_refl _) _).drew
      have hZA : AtS 33 (wr.alloc (.cells #[.int .i64 0, .int .i64 0, .slice none 0 0, .slice none 0 0] 33)).drew wr.heap.size #[.int .i64 0, .int .i64 0, .slice none 0 0, .slice none 0 0] := atS_new 33 wr wr.heap.size _ rfl
      have HRP := Lib.hid (fun (W : World) (h : Below wr.heap.size wr W) => ((refSpPut_all a0 5 hPn hN2 (hh.later h) (hp.later h) HQ.out).mono (by
        rintro e w' ⟨ha', hc', pa', pc', rfl, h1, h2, hk⟩
        exact ⟨ha', hc', pa', pc', rfl, h1, h2, hk, h.trans (hk.mono h.size)⟩) : Calls Try.prog 18 #[.agg #[.int .i64 a0, .int .i64 5, .slice ha N hc, .slice pa N pc], .int .i64 x, .int .i64 c, .string d] W fun e w' => ∃ ha' hc' pa' pc', e = .returned (.tuple #[.agg #[.int .i64 a0, .int .i64 5, .slice ha' N hc', .slice pa' N pc'], .int .i64 r]) ∧ OwnE w' 0 4 1 (.slice ha' N hc') N (hadV P') ∧ OwnE w' 0 9 1 (.slice pa' N pc') N (txV P') ∧ Below W.heap.size W w' ∧ Below wr.heap.size wr w'))
      obtain ⟨y0, y1, y2, y3⟩ := hX.cells4
      obtain ⟨y4, y5, y6, y7⟩ := (hX.later hB).cells4
      obtain ⟨z0, z1, z2⟩ := HD.out wr hb
      obtain ⟨z3, z4, z5⟩ := HD.out _ (hb.trans (hB.mono hb.size))
      obtain ⟨z6, z7, z8, z9⟩ := hZA.frees4
      obtain ⟨x0, x1, x2, x3⟩ := hZA.cells4
      go_cut [11, 12] (fun y z wz => ∃ (gy : Nat) (ha' : Option Addr) (hc' : Nat) (pa' : Option Addr) (pc' : Nat), y = .pointer (some ⟨gy, 0, none⟩) ∧ z = .int .i64 r ∧ wr.heap.size ≤ gy ∧ AtS 33 wz gy #[.int .i64 a0, .int .i64 5, .slice ha' N hc', .slice pa' N pc'] ∧ OwnE wz 0 4 1 (.slice ha' N hc') N (hadV P') ∧ OwnE wz 0 9 1 (.slice pa' N pc') N (txV P') ∧ Below wr.heap.size wr wz)
      case first =>
        clear HACT HD hF hcv
        go_region_law (first | (go_simp; go_at_call 18; refine (HRP.out _ ?hb).mono ?_; (case hb => first | with_reducible exact hA | with_reducible exact hB); rintro e w7 ⟨ha', hc', pa', pc', rfl, hh7, hp7, hk7', hk7⟩; (try (have hN7 : AtS 33 w7 wr.heap.size #[.int .i64 0, .int .i64 0, .slice none 0 0, .slice none 0 0] := (by with_reducible exact hZA.later hk7'))); (try (obtain ⟨_, _, _, _⟩ := hN7.frees4; obtain ⟨_, _, _, _⟩ := hN7.cells4))))
        all_goals
          go_wp2_with fail
          go_meet
          first
          | (have hN7x := hN7; exact ⟨wr.heap.size, ha', hc', pa', pc', rfl, rfl, Nat.le_refl _, atS_put4 (.int .i64 a0) (.int .i64 5) (.slice ha' N hc') (.slice pa' N pc') hN7, hh7.onlyRow hN7 (by decide) (spPut4_only w7 wr.heap.size (.int .i64 a0) (.int .i64 5) (.slice ha' N hc') (.slice pa' N pc')), hp7.onlyRow hN7 (by decide) (spPut4_only w7 wr.heap.size (.int .i64 a0) (.int .i64 5) (.slice ha' N hc') (.slice pa' N pc')), hk7.trans ((spPut4_only w7 wr.heap.size (.int .i64 a0) (.int .i64 5) (.slice ha' N hc') (.slice pa' N pc')).below (Nat.le_refl _))⟩)
          | exact ⟨w7.heap.size, ha', hc', pa', pc', rfl, rfl, hk7.size, atS_new 33 w7 w7.heap.size _ rfl, hh7.later ((Below.refl _ _).alloc (Nat.le_refl _) _), hp7.later ((Below.refl _ _).alloc (Nat.le_refl _) _), hk7.alloc hk7.size _⟩
      case rest =>
      obtain ⟨gy, ha', hc', pa', pc', rfl, rfl, hgy, hY6, hh6, hp6, hk6⟩ := hcut
      rename World => w6
      have hF6 := hF.later hk6
      have hX6 := hX.later hk6
      have hb6 := hb.trans (hk6.mono hb.size)
      have hlt8 := hX.lt
      have hne8 : g8 ≠ gy := by omega
      clear y0 y1 y2 y3 y4 y5 y6 y7 z0 z1 z2 z3 z4 z5 z6 z7 z8 z9 x0 x1 x2 x3
      clear hA hB hZA HRP hF hX hh hp hb hk6
      go_wp2_with fail
      refine (spClone_any hF6).mono ?_
      rintro e w7 ⟨gc, mc, rfl, hC7, hk7⟩
      have hF7 := hF6.later hk7
      have hX7 := hX6.later hk7
      have hY7 := hY6.later hk7
      have hh7 := hh6.later hk7
      have hp7 := hp6.later hk7
      have hb7 := hb6.trans (hk7.mono hb6.size)
      have hgfN : gf < w6.heap.size := hF6.at5.lt
      have hmN : ∀ b, mp = some b → b < w6.heap.size := fun b e => (hF6.mlt b e).2
      generalize w6.heap.size = NC at hC7 hgfN hmN
      clear hF6 hX6 hY6 hh6 hp6 hb6 hk7
      obtain ⟨y0, y1, y2, y3⟩ := hX7.cells4
      obtain ⟨y4, y5, y6, y7⟩ := hX7.frees4
      obtain ⟨y8, y9, z0, z1⟩ := hY7.cells4
      have ho := spPut4_only w7 g8 (.int .i64 a0) (.int .i64 5) (.slice ha' N hc') (.slice pa' N pc')
      have hX8 := atS_put4 (.int .i64 a0) (.int .i64 5) (.slice ha' N hc') (.slice pa' N pc') hX7
      have hF8 := hF7.onlyRow hX7 (by decide) ho
      have hC8 := hC7.onlyRow hX7 (by decide) ho
      have hh8 := hh7.onlyRow hX7 (by decide) ho
      have hp8 := hp7.onlyRow hX7 (by decide) ho
      have hb8 := hb7.trans (ho.below hgX)
      clear hF7 hC7 hh7 hp7 hb7 hY7 ho hX7
      go_upto_region 13 with fail
      generalize ((((w7.setCell ⟨g8, 0, none⟩ (.int .i64 a0)).setCell ⟨g8, 1, none⟩ (.int .i64 5)).setCell ⟨g8, 2, none⟩ (.slice ha' N hc')).setCell ⟨g8, 3, none⟩ (.slice pa' N pc')) = w8 at *
      clear y0 y1 y2 y3 y4 y5 y6 y7 y8 y9 z0 z1
      obtain ⟨y0, y1, y2⟩ := HD.out w8 hb8
      obtain ⟨y3, y4, y5, y6⟩ := hX8.cells4
      have HPu := Lib.hid (spPut_all hF8.drew HQ.out (by omega))
      have hBP : spB P' ≤ 1099511627776 := by omega
      go_cut [85] (fun y wz => y = .bool false ∧ ∃ mp', FIn wz BF gf a0 a1 5 mp' P' ∧ FIn wz NC gc a0 a1 5 mc P ∧ AtS 33 wz g8 #[.int .i64 a0, .int .i64 5, .slice ha' N hc', .slice pa' N pc'] ∧ OwnE wz 0 4 1 (.slice ha' N hc') N (hadV P') ∧ OwnE wz 0 9 1 (.slice pa' N pc') N (txV P') ∧ Below w.heap.size w wz)
      case first =>
        go_region_held3 (fun W => (W.cell? ⟨ab, off + k * 3, none⟩ = some (.int .i64 x) ∧ W.cell? ⟨ab, off + k * 3 + 1, none⟩ = some (.int .i64 c) ∧ W.cell? ⟨ab, off + k * 3 + 2, none⟩ = some (.string dd)) ∧ W.cell? ⟨g8, 0, none⟩ = some (.int .i64 a0) ∧ W.cell? ⟨g8, 1, none⟩ = some (.int .i64 5) ∧ W.cell? ⟨g8, 2, none⟩ = some (.slice ha' N hc') ∧ W.cell? ⟨g8, 3, none⟩ = some (.slice pa' N pc')) (first | (go_keep; done) | exact ⟨HD.out _ hb8.drew, hX8.drew.cells4⟩ | exact ⟨HD.out _ hbb9, hX9.cells4⟩ | exact ⟨HD.out _ hb10, hX10.cells4⟩) (first | (go_at_call 20; refine HPu.out.mono ?_; rintro e w9 ⟨rfl, ⟨mp', hF9⟩, hb9, hK9⟩; have hX9 := AtS.keepF hX8.drew hF8.drew hK9 (by decide); have hh9 := hK9.row hF8.drew hh8.drew (by decide); have hp9 := hK9.row hF8.drew hp8.drew (by decide); have hC9 := hC8.drew.keepC hF8.drew hK9 hgfN hmN; obtain ⟨_, _, _, _⟩ := hX9.cells4; have hbb9 := hb8.drew.trans (hb9.mono hgBF)) | (go_at_call 21; refine (spIs_any hF9 HN.out hh9 hp9 hBP ht0 ht1).mono ?_; rintro e w10 ⟨rfl, hk10⟩; have hF10 := hF9.later hk10; have hC10 := hC9.later hk10; have hX10 := hX9.later hk10; have hh10 := hh9.later hk10; have hp10 := hp9.later hk10; have hb10 := hbb9.trans (hk10.mono hbb9.size)))
        all_goals
          go_wp2_with fail
          go_meet
          exact ⟨rfl, mp', hF10, hC10, hX10, hh10, hp10, hb10⟩
      case rest =>
      obtain ⟨rfl, mp', hF10, hC10, hX10, hh10, hp10, hb10⟩ := hcut
      rename World => w10
      have HHc := Lib.hid (spHave_q hC10)
      have HHf := Lib.hid (spHave_q hF10)
      clear hF8 hC8 hX8 hh8 hp8 hb8 HPu y0 y1 y2 y3 y4 y5 y6
      have HPL' : P'.length = N := by rw [hlen]; exact hPn
      rcases hhad with ⟨hr, hs⟩ | ⟨hr, hs⟩
      · have hd0 : decide (r < 3) = true := decide_eq_true hr
        have hd1 : decide ((3 : Int) ≤ r) = false := decide_eq_false (by omega)
        rw [hs] at HHf
        have hsm := spH_le P
        have hwr : IntKind.i64.wrap (((spH P + 1 : Nat) : Int) - 1) = (spH P : Int) := by rw [IntWalk.i64_in _ ⟨by omega, by omega⟩]; omega
        generalize hsp : spH P = hv at *
        go_wp2_with fail
        refine HHc.out.mono ?_
        rintro e w11 ⟨rfl, hq11⟩
        subst hq11
        go_wp2_with fail
        refine HHf.out.mono ?_
        rintro e w11 ⟨rfl, hq11⟩
        subst hq11
        go_wp2_with fail
        go_roundw
        case rel => exact ⟨k + 1, mp', P', ha', hc', pa', pc', by omega, by omega, by go_num, HPL', by omega, hF10, hX10, hh10, hp10, hb10⟩
        case measure => simp [intOf]; omega
      · have hd0 : decide (r < 3) = false := decide_eq_false (by omega)
        have hd1 : decide ((3 : Int) ≤ r) = true := decide_eq_true (by omega)
        rw [hs] at HHf
        generalize hsp : spH P = hv at *
        go_wp2_with fail
        refine HHc.out.mono ?_
        rintro e w11 ⟨rfl, hq11⟩
        subst hq11
        go_wp2_with fail
        refine HHf.out.mono ?_
        rintro e w11 ⟨rfl, hq11⟩
        subst hq11
        go_wp2_with fail
        go_roundw
        case rel => exact ⟨k + 1, mp', P', ha', hc', pa', pc', by omega, by omega, by go_num, HPL', by omega, hF10, hX10, hh10, hp10, hb10⟩
        case measure => simp [intOf]; omega
    · by_cases hk1 : k < len2
      · have hk2 : k = 30 := by omega
        subst hk2
        go_wp2_with fail
        go_ret
        exact ⟨rfl, hb⟩
      · have hk2 : k = len2 := by omega
        subst hk2
        go_wp2_with fail
        go_ret
        exact ⟨rfl, hb⟩
end splitFrames
end Go.Proofs.Ytihbhgimceglnaa
