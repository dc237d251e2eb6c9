/- subflow.pieceOf of adverts; Adverts.Piece. -/
import Derived.Test.YtjoikidnnhjogaaMSfA
import Derived.Test.YtjoikidnnhjogaaMa
import Derived.Test.YtjoikidnnhjogaaMb
import Derived.Deep.DeepCutAuto
namespace Go.Proofs.Ytjoikidnnhjogaa
open Go.RowKit
set_option linter.unusedVariables false
set_option maxRecDepth 100000 in
set_option maxHeartbeats 3200000 in
theorem pieceA_any (src : Int) (l : List AD) (a : Option Addr) (c : Nat) (w : World) (hr : ReadsA w a l) (hl : l.length ≤ 1000) :
    Calls Try.prog 63 #[.int .i64 2, .int .u32 src, .slice a l.length c, .func (.func 64) #[] #[]] w fun e w' =>
      e = .returned (.agg #[.int .i64 (asP ⟨src, l⟩).count, .int .i64 (asP ⟨src, l⟩).kind, .string (asP ⟨src, l⟩).body]) ∧ Below w.heap.size w w' := by
  obtain ⟨q, hq⟩ : ∃ q, asP ⟨src, l⟩ = q := ⟨_, rfl⟩
  rw [hq]
  have hqy : adsMay l → Hid (q = ⟨2, 211, ofL (be src 4 ++ adsL l)⟩) := fun h => Lib.hid (by rw [← hq]; unfold asP; rw [if_pos h]; rfl)
  have hqn : ¬ adsMay l → Hid (q = zeroPC) := fun h => Lib.hid (by rw [← hq]; unfold asP; rw [if_neg h])
  clear hq
  have HR := Lib.hid (fun W (h : Below w.heap.size w W) => hr.later h)
  clear hr
  have hY1 := pc_new w zeroPC
  unfold zeroPC at hY1
  simp only at hY1
  have hb1 : Below w.heap.size w (w.alloc (.cells #[.int .i64 0, .int .i64 0, .string { data := #[] }] 33)) := (Below.refl _ _).alloc (Nat.le_refl _) _
  go_enter Try.func63, Try.ntmps63
  go_upto_region 1 with fail
  generalize w.alloc (.cells #[.int .i64 0, .int .i64 0, .string { data := #[] }] 33) = w3 at hY1 hb1 ⊢
  generalize hg : w.heap.size = g at hY1 hb1 HR ⊢
  have HG := Lib.hid hg
  clear hg
  have hg3 := hY1.lt
  have hO := out_new w3 w3.heap.size (Nat.le_refl _)
  have hY4 := hY1.alloc (.cells #[.slice none 0 0] 137)
  have hbb4 := hb1.alloc (by omega) (.cells #[.slice none 0 0] 137)
  have hw4 : Hid (w3.heap.size + 1 = (w3.alloc (.cells #[.slice none 0 0] 137)).heap.size) := Lib.hid (by simp)
  go_wp2_with fail
  generalize w3.alloc (.cells #[.slice none 0 0] 137) = w4 at hO hY4 hbb4 hw4 ⊢
  obtain ⟨bo, hbo⟩ : ∃ bo, w3.heap.size = bo := ⟨_, rfl⟩
  rw [hbo] at hO hg3 hw4 ⊢
  clear hbo hY1 hb1
  refine (u32_lit bo bo _ [] [src] #[.int .u32 src] 1 (bo + 1) w4 hw4.out hO rfl rfl (by simp) (by simp)).mono ?_
  rintro e w5 ⟨rfl, v5, hO5, hb5, ho5⟩
  have hY5 := hY4.others (by omega) ho5
  have hbb5 : Below g w w5 := hbb4.trans (hb5.mono (by omega))
  rw [List.nil_append, bes_one] at hO5
  clear hY4 hbb4 hO hb5 ho5 hw4
  have hst : Hid (be src 4 ++ adsL (l.take 0) = be src 4) := Lib.hid (by simp [adsL])
  have hstep : Hid (∀ k, k < l.length → be src 4 ++ adsL (l.take k) ++ adL (l[k]?.getD zeroAD) = be src 4 ++ adsL (l.take (k + 1))) := Lib.hid (fun k hk => by rw [adsL_take l k hk, List.append_assoc])
  have hlen : Hid (∀ k, k ≤ l.length → (be src 4 ++ adsL (l.take k)).length ≤ 1000000) := Lib.hid (fun k hk => by simp only [List.length_append, be_len, adsL_len, List.length_take]; omega)
  have hfin : Hid (be src 4 ++ adsL (l.take l.length) = be src 4 ++ adsL l) := Lib.hid (by rw [List.take_length])
  go_wp2_with fail
  go_loopw [10, 19] (fun z i wr => ∃ (k : Nat) (v : Value), k ≤ l.length ∧ i = .int .i64 k ∧ z = .int .i64 (prevA l k) ∧ PcAt wr g ⟨0, 0, { data := #[] }⟩ ∧ OutAt wr bo bo v (be src 4 ++ adsL (l.take k)) ∧ Below g w wr ∧ Hid (∀ j, j < k → adMay (prevA l j) (l[j]?.getD zeroAD))) (fun _ i _ => l.length - (intOf i).toNat)
  case atStart => exact ⟨0, v5, Nat.zero_le _, rfl, rfl, hY5, by rw [hst.out]; exact hO5, hbb5, Lib.hid (fun j hj => by omega)⟩
  case round =>
    obtain ⟨k, v7, hk, rfl, rfl, hY7, hO7, hbb7, hJ⟩ := hrel
    clear hY5 hO5 hbb5
    have hgo : g ≤ bo := by omega
    by_cases hlt : k < l.length
    · obtain ⟨ab, off, rfl, x0, x1, x2⟩ := (HR.out _ hbb7).at hlt
      have HK := Lib.hid (hstep.out k hlt)
      have HL := Lib.hid (hlen.out k (by omega))
      have HPN := Lib.hid (show prevA l (k + 1) = (l[k]?.getD zeroAD).path from rfl)
      have hJ2 : Hid (adMay (prevA l k) (l[k]?.getD zeroAD) → ∀ j, j < k + 1 → adMay (prevA l j) (l[j]?.getD zeroAD)) := Lib.hid (fun h j hj => by
        by_cases hjk : j = k
        · subst hjk; exact h
        · exact hJ.out j (by omega))
      have hJ3 : Hid (¬ adMay (prevA l k) (l[k]?.getD zeroAD) → ¬ adsMay l) := Lib.hid (fun h h2 => h (h2 k hlt))
      clear hJ
      generalize prevA l k = last at hJ2 hJ3 ⊢
      generalize l[k]?.getD zeroAD = p at x0 x1 x2 HK hJ2 hJ3 HPN
      generalize be src 4 ++ adsL (l.take k) = LK at hO7 HK HL
      obtain ⟨path, up, rate⟩ := p
      simp only at x0 x1 x2 HPN
      have hO8 := hO7.alloc (.cells #[.int .i64 path, .bool up, .int .i64 rate] 115)
      have hY8 := hY7.alloc (.cells #[.int .i64 path, .bool up, .int .i64 rate] 115)
      have hgb : wr.heap.size ≠ bo := by have := hO7.lt; omega
      have hX8 := atC_new 115 wr #[.int .i64 path, .bool up, .int .i64 rate]
      have hbb8 := hbb7.alloc (by have := hY7.lt; omega) (.cells #[.int .i64 path, .bool up, .int .i64 rate] 115)
      clear hO7 hY7 hbb7
      go_upto_region 6 with fail
      generalize wr.alloc (.cells #[.int .i64 path, .bool up, .int .i64 rate] 115) = w8 at hO8 hY8 hX8 hbb8 ⊢
      generalize wr.heap.size = ge at hX8 hgb ⊢
      clear x0 x1 x2
      obtain ⟨x0, x1, x2⟩ := hX8.cells3
      by_cases hp : adMay last ⟨path, up, rate⟩
      · have HJ := Lib.hid (hJ2.out hp)
        obtain ⟨q1, q2, q3, q4⟩ := hp
        simp only at q1 q2 q3 q4
        clear hJ2 hJ3
        have k1 : ¬ path ≤ last := by omega
        have k2 : ¬ 15 < path := by omega
        go_wp2_with fail
        refine (advPath_any path up rate _).mono ?_
        rintro e w9 ⟨rfl, hb9⟩
        have hX9 := hX8.later hb9
        obtain ⟨y0, y1, y2⟩ := hX9.cells3
        go_wp2_with fail
        refine (advPath_any path up rate _).mono ?_
        rintro e w10 ⟨rfl, hb10⟩
        have hX10 := hX9.later hb10
        clear y0 y1 y2
        obtain ⟨y0, y1, y2⟩ := hX10.cells3
        go_wp2_with fail
        refine (advMay_any path up rate _ true (by simp; omega)).mono ?_
        rintro e w11 ⟨rfl, hb11⟩
        have hbA : Below w8.heap.size w8 w11 := hb9.trans ((hb10.trans (hb11.mono hb10.size)).mono hb9.size)
        have hX11 := hX8.later hbA
        have hY11 : PcAt w11 g ⟨0, 0, { data := #[] }⟩ := hY8.later hbA
        have hO11 := OutAt.later hO8 hbA
        have hbb11 := hbb8.trans (hbA.mono (by have := hY8.lt; omega))
        clear hX9 hX10 hX8 hY8 hO8 hbb8 hb9 hb10 hb11 hbA x0 x1 x2 y0 y1 y2
        obtain ⟨x0, x1, x2⟩ := hX11.cells3
        go_wp2_with fail
        refine (advWrite_any path up rate bo bo v7 LK w11 hO11 HL.out).mono ?_
        rintro e w12 ⟨rfl, v12, hO12, hb12, ho12⟩
        rw [HK.out] at hO12
        have hX12 : AtC 115 w12 ge #[.int .i64 path, .bool up, .int .i64 rate] := hX11.others (by decide) hgb ho12
        have hY12 : PcAt w12 g ⟨0, 0, { data := #[] }⟩ := hY11.others (by omega) ho12
        have hbb12 : Below g w w12 := hbb11.trans (hb12.mono hgo)
        clear hX11 hY11 hO11 hbb11 hb12 ho12 x0 x1 x2
        obtain ⟨x0, x1, x2⟩ := hX12.cells3
        go_wp2_with fail
        refine (advPath_any path up rate _).mono ?_
        rintro e w13 ⟨rfl, hb13⟩
        have hY13 : PcAt w13 g ⟨0, 0, { data := #[] }⟩ := hY12.later hb13
        have hO13 := OutAt.later hO12 hb13
        have hbb13 := hbb12.trans (hb13.mono (by have := hY12.lt; omega))
        go_wp2
        go_roundw
        case rel => exact ⟨k + 1, v12, by omega, by go_num, by rw [HPN.out], hY13, hO13, hbb13, HJ⟩
        case measure => simp [intOf]; omega
      · have hqv := (hqn (hJ3.out hp)).out
        subst hqv
        have hbad : path ≤ last ∨ (¬ path ≤ last ∧ 15 < path) ∨ (¬ path ≤ last ∧ ¬ 15 < path ∧ ¬ (0 ≤ rate ∧ rate ≤ 65535)) := by
          unfold adMay at hp
          simp only at hp
          omega
        clear hJ2 hJ3 hp hqy hqn HK HL HPN
        rcases hbad with k1 | ⟨k1, k2⟩ | ⟨k1, k2, k3⟩
        · go_wp2_with fail
          refine (advPath_any path up rate _).mono ?_
          rintro e w11 ⟨rfl, hbA⟩
          have hY11 : PcAt w11 g ⟨0, 0, { data := #[] }⟩ := hY8.later hbA
          have hbb11 := hbb8.trans (hbA.mono (by have := hY8.lt; omega))
          clear hX8 hY8 hO8 hbb8 hbA x0 x1 x2
          obtain ⟨y0, y1, y2, _⟩ := pcAt_S hY11
          have f0 : w11.frozen? ⟨g, 0, none⟩ = false := by simp [World.frozen?, show w11.heap[g]? = _ from hY11]
          have f1 : w11.frozen? ⟨g, 1, none⟩ = false := by simp [World.frozen?, show w11.heap[g]? = _ from hY11]
          have f2 : w11.frozen? ⟨g, 2, none⟩ = false := by simp [World.frozen?, show w11.heap[g]? = _ from hY11]
          have hz : PcAt (((w11.setCell ⟨g, 0, none⟩ (.int .i64 0)).setCell ⟨g, 1, none⟩ (.int .i64 0)).setCell ⟨g, 2, none⟩ (.string { data := #[] })) g ⟨0, 0, { data := #[] }⟩ := block_setCell (i := 2) (u := .string { data := #[] }) (block_setCell (i := 1) (u := .int .i64 0) (block_setCell (i := 0) (u := .int .i64 0) hY11))
          have hbz := (((hbb11.setCell (p := ⟨g, 0, none⟩) (Nat.le_refl _) (.int .i64 0)).setCell (p := ⟨g, 1, none⟩) (Nat.le_refl _) (.int .i64 0)).setCell (p := ⟨g, 2, none⟩) (Nat.le_refl _) (.string { data := #[] }))
          go_wp2
          generalize ((w11.setCell ⟨g, 0, none⟩ (.int .i64 0)).setCell ⟨g, 1, none⟩ (.int .i64 0)).setCell ⟨g, 2, none⟩ (.string { data := #[] }) = wz at hz hbz ⊢
          obtain ⟨d0, d1, d2, _⟩ := pcAt_S hz
          refine bodyPost_ret (v := .agg #[.int .i64 0, .int .i64 0, .string { data := #[] }]) (by simp [results, Try.results63, go_sem, d0, d1, d2]) rfl ⟨rfl, by rw [HG.out]; exact hbz⟩
        · go_wp2_with fail
          refine (advPath_any path up rate _).mono ?_
          rintro e w9 ⟨rfl, hb9⟩
          have hX9 := hX8.later hb9
          obtain ⟨y0, y1, y2⟩ := hX9.cells3
          go_wp2_with fail
          refine (advPath_any path up rate _).mono ?_
          rintro e w11 ⟨rfl, hb11⟩
          have hbA : Below w8.heap.size w8 w11 := hb9.trans (hb11.mono hb9.size)
          have hY11 : PcAt w11 g ⟨0, 0, { data := #[] }⟩ := hY8.later hbA
          have hbb11 := hbb8.trans (hbA.mono (by have := hY8.lt; omega))
          clear hX8 hX9 hY8 hO8 hbb8 hb9 hb11 hbA x0 x1 x2 y0 y1 y2
          obtain ⟨y0, y1, y2, _⟩ := pcAt_S hY11
          have f0 : w11.frozen? ⟨g, 0, none⟩ = false := by simp [World.frozen?, show w11.heap[g]? = _ from hY11]
          have f1 : w11.frozen? ⟨g, 1, none⟩ = false := by simp [World.frozen?, show w11.heap[g]? = _ from hY11]
          have f2 : w11.frozen? ⟨g, 2, none⟩ = false := by simp [World.frozen?, show w11.heap[g]? = _ from hY11]
          have hz : PcAt (((w11.setCell ⟨g, 0, none⟩ (.int .i64 0)).setCell ⟨g, 1, none⟩ (.int .i64 0)).setCell ⟨g, 2, none⟩ (.string { data := #[] })) g ⟨0, 0, { data := #[] }⟩ := block_setCell (i := 2) (u := .string { data := #[] }) (block_setCell (i := 1) (u := .int .i64 0) (block_setCell (i := 0) (u := .int .i64 0) hY11))
          have hbz := (((hbb11.setCell (p := ⟨g, 0, none⟩) (Nat.le_refl _) (.int .i64 0)).setCell (p := ⟨g, 1, none⟩) (Nat.le_refl _) (.int .i64 0)).setCell (p := ⟨g, 2, none⟩) (Nat.le_refl _) (.string { data := #[] }))
          go_wp2
          generalize ((w11.setCell ⟨g, 0, none⟩ (.int .i64 0)).setCell ⟨g, 1, none⟩ (.int .i64 0)).setCell ⟨g, 2, none⟩ (.string { data := #[] }) = wz at hz hbz ⊢
          obtain ⟨d0, d1, d2, _⟩ := pcAt_S hz
          refine bodyPost_ret (v := .agg #[.int .i64 0, .int .i64 0, .string { data := #[] }]) (by simp [results, Try.results63, go_sem, d0, d1, d2]) rfl ⟨rfl, by rw [HG.out]; exact hbz⟩
        · go_wp2_with fail
          refine (advPath_any path up rate _).mono ?_
          rintro e w9 ⟨rfl, hb9⟩
          have hX9 := hX8.later hb9
          obtain ⟨y0, y1, y2⟩ := hX9.cells3
          go_wp2_with fail
          refine (advPath_any path up rate _).mono ?_
          rintro e w10 ⟨rfl, hb10⟩
          have hX10 := hX9.later hb10
          clear y0 y1 y2
          obtain ⟨y0, y1, y2⟩ := hX10.cells3
          go_wp2_with fail
          refine (advMay_any path up rate _ false (by simp; omega)).mono ?_
          rintro e w11 ⟨rfl, hb11⟩
          have hbA : Below w8.heap.size w8 w11 := hb9.trans ((hb10.trans (hb11.mono hb10.size)).mono hb9.size)
          have hY11 : PcAt w11 g ⟨0, 0, { data := #[] }⟩ := hY8.later hbA
          have hbb11 := hbb8.trans (hbA.mono (by have := hY8.lt; omega))
          clear hX8 hX9 hX10 hY8 hO8 hbb8 hb9 hb10 hb11 hbA x0 x1 x2 y0 y1 y2
          obtain ⟨y0, y1, y2, _⟩ := pcAt_S hY11
          have f0 : w11.frozen? ⟨g, 0, none⟩ = false := by simp [World.frozen?, show w11.heap[g]? = _ from hY11]
          have f1 : w11.frozen? ⟨g, 1, none⟩ = false := by simp [World.frozen?, show w11.heap[g]? = _ from hY11]
          have f2 : w11.frozen? ⟨g, 2, none⟩ = false := by simp [World.frozen?, show w11.heap[g]? = _ from hY11]
          have hz : PcAt (((w11.setCell ⟨g, 0, none⟩ (.int .i64 0)).setCell ⟨g, 1, none⟩ (.int .i64 0)).setCell ⟨g, 2, none⟩ (.string { data := #[] })) g ⟨0, 0, { data := #[] }⟩ := block_setCell (i := 2) (u := .string { data := #[] }) (block_setCell (i := 1) (u := .int .i64 0) (block_setCell (i := 0) (u := .int .i64 0) hY11))
          have hbz := (((hbb11.setCell (p := ⟨g, 0, none⟩) (Nat.le_refl _) (.int .i64 0)).setCell (p := ⟨g, 1, none⟩) (Nat.le_refl _) (.int .i64 0)).setCell (p := ⟨g, 2, none⟩) (Nat.le_refl _) (.string { data := #[] }))
          go_wp2
          generalize ((w11.setCell ⟨g, 0, none⟩ (.int .i64 0)).setCell ⟨g, 1, none⟩ (.int .i64 0)).setCell ⟨g, 2, none⟩ (.string { data := #[] }) = wz at hz hbz ⊢
          obtain ⟨d0, d1, d2, _⟩ := pcAt_S hz
          refine bodyPost_ret (v := .agg #[.int .i64 0, .int .i64 0, .string { data := #[] }]) (by simp [results, Try.results63, go_sem, d0, d1, d2]) rfl ⟨rfl, by rw [HG.out]; exact hbz⟩
    · obtain rfl : k = l.length := by omega
      have hqv := (hqy (fun j hj => hJ.out j hj)).out
      have HQ := Lib.hid hqv
      rw [hfin.out] at hO7
      clear hqv hqy hqn hJ hst hstep hlen hfin hlt
      have HBy := Lib.hid (bytes_any bo bo v7 _ wr hO7)
      generalize ofL (be src 4 ++ adsL l) = RS at HQ HBy
      obtain ⟨y0, y1, y2, _⟩ := pcAt_S hY7
      have f0 : wr.frozen? ⟨g, 0, none⟩ = false := by simp [World.frozen?, show wr.heap[g]? = _ from hY7]
      have f1 : wr.frozen? ⟨g, 1, none⟩ = false := by simp [World.frozen?, show wr.heap[g]? = _ from hY7]
      have f2 : wr.frozen? ⟨g, 2, none⟩ = false := by simp [World.frozen?, show wr.heap[g]? = _ from hY7]
      have hz : PcAt (((wr.setCell ⟨g, 0, none⟩ (.int .i64 2)).setCell ⟨g, 1, none⟩ (.int .i64 211)).setCell ⟨g, 2, none⟩ (.string RS)) g ⟨2, 211, RS⟩ := block_setCell (i := 2) (u := .string RS) (block_setCell (i := 1) (u := .int .i64 211) (block_setCell (i := 0) (u := .int .i64 2) hY7))
      have hbz := (((hbb7.setCell (p := ⟨g, 0, none⟩) (Nat.le_refl _) (.int .i64 2)).setCell (p := ⟨g, 1, none⟩) (Nat.le_refl _) (.int .i64 211)).setCell (p := ⟨g, 2, none⟩) (Nat.le_refl _) (.string RS))
      go_wp2_with fail
      refine HBy.out.mono ?_
      rintro e w' ⟨rfl, rfl⟩
      go_wp2
      generalize ((wr.setCell ⟨g, 0, none⟩ (.int .i64 2)).setCell ⟨g, 1, none⟩ (.int .i64 211)).setCell ⟨g, 2, none⟩ (.string RS) = wz at hz hbz ⊢
      obtain ⟨d0, d1, d2, _⟩ := pcAt_S hz
      refine bodyPost_ret (v := .agg #[.int .i64 2, .int .i64 211, .string RS]) (by simp [results, Try.results63, go_sem, d0, d1, d2]) rfl ⟨by rw [HQ.out], by rw [HG.out]; exact hbz⟩
set_option maxHeartbeats 1600000 in
theorem advPiece_any (src : Int) (l : List AD) (a : Option Addr) (c : Nat) (w : World) (hr : ReadsA w a l) (hl : l.length ≤ 1000) :
    Calls Try.prog 22 #[.agg #[.int .u32 src, .slice a l.length c]] w fun e w' =>
      e = .returned (.agg #[.int .i64 (asP ⟨src, l⟩).count, .int .i64 (asP ⟨src, l⟩).kind, .string (asP ⟨src, l⟩).body]) ∧ Below w.heap.size w w' := by
  have HP := Lib.hid (fun W (h : Below w.heap.size w W) => pieceA_any src l a c W (hr.later h) hl)
  generalize asP ⟨src, l⟩ = q at HP ⊢
  obtain ⟨qc, qk, qs⟩ := q
  simp only at HP ⊢
  clear hr
  have hX1 := atC_new 39 w #[.int .u32 src, .slice a l.length c]
  have hX2 := hX1.alloc (.cells #[.int .i64 0, .int .i64 0, .string { data := #[] }] 33)
  have hY2 := pc_new (w.alloc (.cells #[.int .u32 src, .slice a l.length c] 39)) zeroPC
  have hb2 : Below w.heap.size w ((w.alloc (.cells #[.int .u32 src, .slice a l.length c] 39)).alloc (.cells #[.int .i64 0, .int .i64 0, .string { data := #[] }] 33)) := by go_grown
  have hne : (w.alloc (.cells #[.int .u32 src, .slice a l.length c] 39)).heap.size = w.heap.size + 1 := by simp
  rw [hne] at hY2
  unfold zeroPC at hY2
  simp only at hY2
  clear hX1 hne
  go_enter Try.func22, Try.ntmps22
  go_upto_region 1 with fail
  generalize (w.alloc (.cells #[.int .u32 src, .slice a l.length c] 39)).alloc (.cells #[.int .i64 0, .int .i64 0, .string { data := #[] }] 33) = w2 at hX2 hY2 hb2 ⊢
  have hgB : w.heap.size ≤ w.heap.size + 1 := by omega
  generalize hg2 : w.heap.size + 1 = g2 at hY2 hgB ⊢
  generalize hg : w.heap.size = g at hX2 hb2 hgB HP ⊢
  have HG := Lib.hid hg
  clear hg2 hg
  obtain ⟨x0, x1⟩ := hX2.cells2
  go_wp2_with fail
  refine (HP.out _ hb2).mono ?_
  rintro e w3 ⟨rfl, hb3⟩
  have hY3 : PcAt w3 g2 ⟨0, 0, { data := #[] }⟩ := hY2.later hb3
  have hbb3 := hb2.trans (hb3.mono (by have := hX2.lt; omega))
  clear hX2 hY2 hb2 hb3 x0 x1
  obtain ⟨y0, y1, y2, _⟩ := pcAt_S hY3
  have f0 : w3.frozen? ⟨g2, 0, none⟩ = false := by simp [World.frozen?, show w3.heap[g2]? = _ from hY3]
  have f1 : w3.frozen? ⟨g2, 1, none⟩ = false := by simp [World.frozen?, show w3.heap[g2]? = _ from hY3]
  have f2 : w3.frozen? ⟨g2, 2, none⟩ = false := by simp [World.frozen?, show w3.heap[g2]? = _ from hY3]
  have hz : PcAt (((w3.setCell ⟨g2, 0, none⟩ (.int .i64 qc)).setCell ⟨g2, 1, none⟩ (.int .i64 qk)).setCell ⟨g2, 2, none⟩ (.string qs)) g2 ⟨qc, qk, qs⟩ := block_setCell (i := 2) (u := .string qs) (block_setCell (i := 1) (u := .int .i64 qk) (block_setCell (i := 0) (u := .int .i64 qc) hY3))
  have hbz := (((hbb3.setCell (p := ⟨g2, 0, none⟩) hgB (.int .i64 qc)).setCell (p := ⟨g2, 1, none⟩) hgB (.int .i64 qk)).setCell (p := ⟨g2, 2, none⟩) hgB (.string qs))
  go_wp2
  generalize ((w3.setCell ⟨g2, 0, none⟩ (.int .i64 qc)).setCell ⟨g2, 1, none⟩ (.int .i64 qk)).setCell ⟨g2, 2, none⟩ (.string qs) = wz at hz hbz ⊢
  obtain ⟨d0, d1, d2, _⟩ := pcAt_S hz
  refine bodyPost_ret (v := .agg #[.int .i64 qc, .int .i64 qk, .string qs]) (by simp [results, Try.results22, go_sem, d0, d1, d2]) rfl ⟨rfl, by rw [HG.out]; exact hbz⟩
end Go.Proofs.Ytjoikidnnhjogaa

