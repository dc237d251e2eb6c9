/- subflow.pieceOf of lines; Lines.Piece. -/
import Derived.Test.YtjoikidnnhjogaaMSfL
import Derived.Test.YtjoikidnnhjogaaMa
import Derived.Test.YtjoikidnnhjogaaMb
import Derived.Deep.DeepCutAuto
namespace Go.Proofs.Ytjoikidnnhjogaa
open Go.RowKit
set_option linter.unusedVariables false
set_option maxRecDepth 100000 in
set_option maxHeartbeats 3200000 in
theorem pieceL_any (src : Int) (l : List LI) (a : Option Addr) (c : Nat) (w : World) (hr : ReadsL LI.vals w a l) (hl : l.length ≤ 1000) :
    Calls Try.prog 61 #[.int .i64 1, .int .u32 src, .slice a l.length c, .func (.func 62) #[] #[]] w fun e w' =>
      e = .returned (.agg #[.int .i64 (lqP ⟨src, l⟩).count, .int .i64 (lqP ⟨src, l⟩).kind, .string (lqP ⟨src, l⟩).body]) ∧ Below w.heap.size w w' := by
  obtain ⟨q, hq⟩ : ∃ q, lqP ⟨src, l⟩ = q := ⟨_, rfl⟩
  rw [hq]
  have hqy : lisMay l → Hid (q = ⟨1, 211, ofL (be src 4 ++ lisL l)⟩) := fun h => Lib.hid (by rw [← hq]; unfold lqP; rw [if_pos h])
  have hqn : ¬ lisMay l → Hid (q = zeroPC) := fun h => Lib.hid (by rw [← hq]; unfold lqP; rw [if_neg h])
  clear hq
  have HR := Lib.hid (fun W (h : Below w.heap.size w W) => hr.later h)
  clear hr
  have hY1 := pc_new w zeroPC
  unfold zeroPC at hY1
  simp only at hY1
  have hb1 : Below w.heap.size w (w.alloc (.cells #[.int .i64 0, .int .i64 0, .string { data := #[] }] 33)) := (Below.refl _ _).alloc (Nat.le_refl _) _
  go_enter Try.func61, Try.ntmps61
  go_upto_region 1 with fail
  generalize w.alloc (.cells #[.int .i64 0, .int .i64 0, .string { data := #[] }] 33) = w3 at hY1 hb1 ⊢
  generalize hg : w.heap.size = g at hY1 hb1 HR ⊢
  have HG := Lib.hid hg
  clear hg
  have hg3 := hY1.lt
  have hO := out_new w3 w3.heap.size (Nat.le_refl _)
  have hY4 := hY1.alloc (.cells #[.slice none 0 0] 137)
  have hbb4 := hb1.alloc (by omega) (.cells #[.slice none 0 0] 137)
  have hw4 : Hid (w3.heap.size + 1 = (w3.alloc (.cells #[.slice none 0 0] 137)).heap.size) := Lib.hid (by simp)
  go_wp2_with fail
  generalize w3.alloc (.cells #[.slice none 0 0] 137) = w4 at hO hY4 hbb4 hw4 ⊢
  obtain ⟨bo, hbo⟩ : ∃ bo, w3.heap.size = bo := ⟨_, rfl⟩
  rw [hbo] at hO hg3 hw4 ⊢
  clear hbo hY1 hb1
  refine (u32_lit bo bo _ [] [src] #[.int .u32 src] 1 (bo + 1) w4 hw4.out hO rfl rfl (by simp) (by simp)).mono ?_
  rintro e w5 ⟨rfl, v5, hO5, hb5, ho5⟩
  have hY5 := hY4.others (by omega) ho5
  have hbb5 : Below g w w5 := hbb4.trans (hb5.mono (by omega))
  rw [List.nil_append, bes_one] at hO5
  clear hY4 hbb4 hO hb5 ho5 hw4
  have hst : Hid (be src 4 ++ lisL (l.take 0) = be src 4) := Lib.hid (by simp [lisL])
  have hstep : Hid (∀ k, k < l.length → be src 4 ++ lisL (l.take k) ++ liL (l[k]?.getD zeroLI) = be src 4 ++ lisL (l.take (k + 1))) := Lib.hid (fun k hk => by rw [lisL_take l k hk, List.append_assoc])
  have hlen : Hid (∀ k, k ≤ l.length → (be src 4 ++ lisL (l.take k)).length ≤ 1000000) := Lib.hid (fun k hk => by simp only [List.length_append, be_len, lisL_len, List.length_take]; omega)
  have hfin : Hid (be src 4 ++ lisL (l.take l.length) = be src 4 ++ lisL l) := Lib.hid (by rw [List.take_length])
  go_wp2_with fail
  go_loopw [10, 19] (fun z i wr => ∃ (k : Nat) (v : Value), k ≤ l.length ∧ i = .int .i64 k ∧ z = .int .i64 (prevL l k) ∧ PcAt wr g ⟨0, 0, { data := #[] }⟩ ∧ OutAt wr bo bo v (be src 4 ++ lisL (l.take k)) ∧ Below g w wr ∧ Hid (∀ j, j < k → liMay (prevL l j) (l[j]?.getD zeroLI))) (fun _ i _ => l.length - (intOf i).toNat)
  case atStart => exact ⟨0, v5, Nat.zero_le _, rfl, rfl, hY5, by rw [hst.out]; exact hO5, hbb5, Lib.hid (fun j hj => by omega)⟩
  case round =>
    obtain ⟨k, v7, hk, rfl, rfl, hY7, hO7, hbb7, hJ⟩ := hrel
    clear hY5 hO5 hbb5
    have hgo : g ≤ bo := by omega
    by_cases hlt : k < l.length
    · obtain ⟨ab, off, rfl, x0, x1, x2, x3, x4, x5, x6, x7⟩ := (HR.out _ hbb7).at hlt
      have HK := Lib.hid (hstep.out k hlt)
      have HL := Lib.hid (hlen.out k (by omega))
      have HPN := Lib.hid (show prevL l (k + 1) = (l[k]?.getD zeroLI).path from rfl)
      have hJ2 : Hid (liMay (prevL l k) (l[k]?.getD zeroLI) → ∀ j, j < k + 1 → liMay (prevL l j) (l[j]?.getD zeroLI)) := Lib.hid (fun h j hj => by
        by_cases hjk : j = k
        · subst hjk; exact h
        · exact hJ.out j (by omega))
      have hJ3 : Hid (¬ liMay (prevL l k) (l[k]?.getD zeroLI) → ¬ lisMay l) := Lib.hid (fun h h2 => h (h2 k hlt))
      clear hJ
      generalize prevL l k = last at hJ2 hJ3 ⊢
      generalize l[k]?.getD zeroLI = p at x0 x1 x2 x3 x4 x5 x6 x7 HK hJ2 hJ3 HPN
      generalize be src 4 ++ lisL (l.take k) = LK at hO7 HK HL
      obtain ⟨path, frac, lost, high, jit, bytes, last0, delay⟩ := p
      simp only at x0 x1 x2 x3 x4 x5 x6 x7 HPN
      have hO8 := hO7.alloc (.cells #[.int .i64 path, .int .i64 frac, .int .i64 lost, .int .u32 high, .int .u32 jit, .int .u32 bytes, .int .u32 last0, .int .u32 delay] 128)
      have hY8 := hY7.alloc (.cells #[.int .i64 path, .int .i64 frac, .int .i64 lost, .int .u32 high, .int .u32 jit, .int .u32 bytes, .int .u32 last0, .int .u32 delay] 128)
      have hgb : wr.heap.size ≠ bo := by have := hO7.lt; omega
      have hX8 := atC_new 128 wr #[.int .i64 path, .int .i64 frac, .int .i64 lost, .int .u32 high, .int .u32 jit, .int .u32 bytes, .int .u32 last0, .int .u32 delay]
      have hbb8 := hbb7.alloc (by have := hY7.lt; omega) (.cells #[.int .i64 path, .int .i64 frac, .int .i64 lost, .int .u32 high, .int .u32 jit, .int .u32 bytes, .int .u32 last0, .int .u32 delay] 128)
      clear hO7 hY7 hbb7
      go_upto_region 6 with fail
      generalize wr.alloc (.cells #[.int .i64 path, .int .i64 frac, .int .i64 lost, .int .u32 high, .int .u32 jit, .int .u32 bytes, .int .u32 last0, .int .u32 delay] 128) = w8 at hO8 hY8 hX8 hbb8 ⊢
      generalize wr.heap.size = ge at hX8 hgb ⊢
      clear x0 x1 x2 x3 x4 x5 x6 x7
      obtain ⟨x0, x1, x2, x3, x4, x5, x6, x7⟩ := hX8.cells8
      by_cases hp : liMay last ⟨path, frac, lost, high, jit, bytes, last0, delay⟩
      · have HJ := Lib.hid (hJ2.out hp)
        obtain ⟨q1, q2, q3⟩ := hp
        simp only at q1 q2
        clear hJ2 hJ3
        have k1 : ¬ path ≤ last := by omega
        have k2 : ¬ 15 < path := by omega
        go_wp2_with fail
        refine (liPath_any ⟨path, frac, lost, high, jit, bytes, last0, delay⟩ _).mono ?_
        rintro e w9 ⟨rfl, hb9⟩
        have hX9 := hX8.later hb9
        obtain ⟨y0, y1, y2, y3, y4, y5, y6, y7⟩ := hX9.cells8
        go_wp2_with fail
        refine (liPath_any ⟨path, frac, lost, high, jit, bytes, last0, delay⟩ _).mono ?_
        rintro e w10 ⟨rfl, hb10⟩
        have hX10 := hX9.later hb10
        clear y0 y1 y2 y3 y4 y5 y6 y7
        obtain ⟨y0, y1, y2, y3, y4, y5, y6, y7⟩ := hX10.cells8
        go_wp2_with fail
        refine (liMay_any ⟨path, frac, lost, high, jit, bytes, last0, delay⟩ _ true (by simp [q3])).mono ?_
        rintro e w11 ⟨rfl, hb11⟩
        have hbA : Below w8.heap.size w8 w11 := hb9.trans ((hb10.trans (hb11.mono hb10.size)).mono hb9.size)
        have hX11 := hX8.later hbA
        have hY11 : PcAt w11 g ⟨0, 0, { data := #[] }⟩ := hY8.later hbA
        have hO11 := OutAt.later hO8 hbA
        have hbb11 := hbb8.trans (hbA.mono (by have := hY8.lt; omega))
        clear hX9 hX10 hX8 hY8 hO8 hbb8 hb9 hb10 hb11 hbA x0 x1 x2 x3 x4 x5 x6 x7 y0 y1 y2 y3 y4 y5 y6 y7
        obtain ⟨x0, x1, x2, x3, x4, x5, x6, x7⟩ := hX11.cells8
        go_wp2_with fail
        refine (liWrite_any ⟨path, frac, lost, high, jit, bytes, last0, delay⟩ bo bo v7 LK w11 hO11 HL.out).mono ?_
        rintro e w12 ⟨rfl, v12, hO12, hb12, ho12⟩
        rw [HK.out] at hO12
        have hX12 : AtC 128 w12 ge #[.int .i64 path, .int .i64 frac, .int .i64 lost, .int .u32 high, .int .u32 jit, .int .u32 bytes, .int .u32 last0, .int .u32 delay] := hX11.others (by decide) hgb ho12
        have hY12 : PcAt w12 g ⟨0, 0, { data := #[] }⟩ := hY11.others (by omega) ho12
        have hbb12 : Below g w w12 := hbb11.trans (hb12.mono hgo)
        clear hX11 hY11 hO11 hbb11 hb12 ho12 x0 x1 x2 x3 x4 x5 x6 x7
        obtain ⟨x0, x1, x2, x3, x4, x5, x6, x7⟩ := hX12.cells8
        go_wp2_with fail
        refine (liPath_any ⟨path, frac, lost, high, jit, bytes, last0, delay⟩ _).mono ?_
        rintro e w13 ⟨rfl, hb13⟩
        have hY13 : PcAt w13 g ⟨0, 0, { data := #[] }⟩ := hY12.later hb13
        have hO13 := OutAt.later hO12 hb13
        have hbb13 := hbb12.trans (hb13.mono (by have := hY12.lt; omega))
        go_wp2
        go_roundw
        case rel => exact ⟨k + 1, v12, by omega, by go_num, by rw [HPN.out], hY13, hO13, hbb13, HJ⟩
        case measure => simp [intOf]; omega
      · have hqv := (hqn (hJ3.out hp)).out
        subst hqv
        have hbad : path ≤ last ∨ (¬ path ≤ last ∧ 15 < path) ∨ (¬ path ≤ last ∧ ¬ 15 < path ∧ ¬ liOk ⟨path, frac, lost, high, jit, bytes, last0, delay⟩) := by
          unfold liMay at hp
          simp only at hp
          by_cases k1 : path ≤ last
          · exact .inl k1
          · by_cases k2 : 15 < path
            · exact .inr (.inl ⟨k1, k2⟩)
            · exact .inr (.inr ⟨k1, k2, fun k3 => hp ⟨by omega, by omega, k3⟩⟩)
        clear hJ2 hJ3 hp hqy hqn HK HL HPN
        rcases hbad with k1 | ⟨k1, k2⟩ | ⟨k1, k2, k3⟩
        · go_wp2_with fail
          refine (liPath_any ⟨path, frac, lost, high, jit, bytes, last0, delay⟩ _).mono ?_
          rintro e w11 ⟨rfl, hbA⟩
          have hY11 : PcAt w11 g ⟨0, 0, { data := #[] }⟩ := hY8.later hbA
          have hbb11 := hbb8.trans (hbA.mono (by have := hY8.lt; omega))
          clear hX8 hY8 hO8 hbb8 hbA x0 x1 x2 x3 x4 x5 x6 x7
          obtain ⟨y0, y1, y2, _⟩ := pcAt_S hY11
          have f0 : w11.frozen? ⟨g, 0, none⟩ = false := by simp [World.frozen?, show w11.heap[g]? = _ from hY11]
          have f1 : w11.frozen? ⟨g, 1, none⟩ = false := by simp [World.frozen?, show w11.heap[g]? = _ from hY11]
          have f2 : w11.frozen? ⟨g, 2, none⟩ = false := by simp [World.frozen?, show w11.heap[g]? = _ from hY11]
          have hz : PcAt (((w11.setCell ⟨g, 0, none⟩ (.int .i64 0)).setCell ⟨g, 1, none⟩ (.int .i64 0)).setCell ⟨g, 2, none⟩ (.string { data := #[] })) g ⟨0, 0, { data := #[] }⟩ := block_setCell (i := 2) (u := .string { data := #[] }) (block_setCell (i := 1) (u := .int .i64 0) (block_setCell (i := 0) (u := .int .i64 0) hY11))
          have hbz := (((hbb11.setCell (p := ⟨g, 0, none⟩) (Nat.le_refl _) (.int .i64 0)).setCell (p := ⟨g, 1, none⟩) (Nat.le_refl _) (.int .i64 0)).setCell (p := ⟨g, 2, none⟩) (Nat.le_refl _) (.string { data := #[] }))
          go_wp2
          generalize ((w11.setCell ⟨g, 0, none⟩ (.int .i64 0)).setCell ⟨g, 1, none⟩ (.int .i64 0)).setCell ⟨g, 2, none⟩ (.string { data := #[] }) = wz at hz hbz ⊢
          obtain ⟨d0, d1, d2, _⟩ := pcAt_S hz
          refine bodyPost_ret (v := .agg #[.int .i64 0, .int .i64 0, .string { data := #[] }]) (by simp [results, Try.results61, go_sem, d0, d1, d2]) rfl ⟨rfl, by rw [HG.out]; exact hbz⟩
        · go_wp2_with fail
          refine (liPath_any ⟨path, frac, lost, high, jit, bytes, last0, delay⟩ _).mono ?_
          rintro e w9 ⟨rfl, hb9⟩
          have hX9 := hX8.later hb9
          obtain ⟨y0, y1, y2, y3, y4, y5, y6, y7⟩ := hX9.cells8
          go_wp2_with fail
          refine (liPath_any ⟨path, frac, lost, high, jit, bytes, last0, delay⟩ _).mono ?_
          rintro e w11 ⟨rfl, hb11⟩
          have hbA : Below w8.heap.size w8 w11 := hb9.trans (hb11.mono hb9.size)
          have hY11 : PcAt w11 g ⟨0, 0, { data := #[] }⟩ := hY8.later hbA
          have hbb11 := hbb8.trans (hbA.mono (by have := hY8.lt; omega))
          clear hX8 hX9 hY8 hO8 hbb8 hb9 hb11 hbA x0 x1 x2 x3 x4 x5 x6 x7 y0 y1 y2 y3 y4 y5 y6 y7
          obtain ⟨y0, y1, y2, _⟩ := pcAt_S hY11
          have f0 : w11.frozen? ⟨g, 0, none⟩ = false := by simp [World.frozen?, show w11.heap[g]? = _ from hY11]
          have f1 : w11.frozen? ⟨g, 1, none⟩ = false := by simp [World.frozen?, show w11.heap[g]? = _ from hY11]
          have f2 : w11.frozen? ⟨g, 2, none⟩ = false := by simp [World.frozen?, show w11.heap[g]? = _ from hY11]
          have hz : PcAt (((w11.setCell ⟨g, 0, none⟩ (.int .i64 0)).setCell ⟨g, 1, none⟩ (.int .i64 0)).setCell ⟨g, 2, none⟩ (.string { data := #[] })) g ⟨0, 0, { data := #[] }⟩ := block_setCell (i := 2) (u := .string { data := #[] }) (block_setCell (i := 1) (u := .int .i64 0) (block_setCell (i := 0) (u := .int .i64 0) hY11))
          have hbz := (((hbb11.setCell (p := ⟨g, 0, none⟩) (Nat.le_refl _) (.int .i64 0)).setCell (p := ⟨g, 1, none⟩) (Nat.le_refl _) (.int .i64 0)).setCell (p := ⟨g, 2, none⟩) (Nat.le_refl _) (.string { data := #[] }))
          go_wp2
          generalize ((w11.setCell ⟨g, 0, none⟩ (.int .i64 0)).setCell ⟨g, 1, none⟩ (.int .i64 0)).setCell ⟨g, 2, none⟩ (.string { data := #[] }) = wz at hz hbz ⊢
          obtain ⟨d0, d1, d2, _⟩ := pcAt_S hz
          refine bodyPost_ret (v := .agg #[.int .i64 0, .int .i64 0, .string { data := #[] }]) (by simp [results, Try.results61, go_sem, d0, d1, d2]) rfl ⟨rfl, by rw [HG.out]; exact hbz⟩
        · go_wp2_with fail
          refine (liPath_any ⟨path, frac, lost, high, jit, bytes, last0, delay⟩ _).mono ?_
          rintro e w9 ⟨rfl, hb9⟩
          have hX9 := hX8.later hb9
          obtain ⟨y0, y1, y2, y3, y4, y5, y6, y7⟩ := hX9.cells8
          go_wp2_with fail
          refine (liPath_any ⟨path, frac, lost, high, jit, bytes, last0, delay⟩ _).mono ?_
          rintro e w10 ⟨rfl, hb10⟩
          have hX10 := hX9.later hb10
          clear y0 y1 y2 y3 y4 y5 y6 y7
          obtain ⟨y0, y1, y2, y3, y4, y5, y6, y7⟩ := hX10.cells8
          go_wp2_with fail
          refine (liMay_any ⟨path, frac, lost, high, jit, bytes, last0, delay⟩ _ false (by simp [k3])).mono ?_
          rintro e w11 ⟨rfl, hb11⟩
          have hbA : Below w8.heap.size w8 w11 := hb9.trans ((hb10.trans (hb11.mono hb10.size)).mono hb9.size)
          have hY11 : PcAt w11 g ⟨0, 0, { data := #[] }⟩ := hY8.later hbA
          have hbb11 := hbb8.trans (hbA.mono (by have := hY8.lt; omega))
          clear hX8 hX9 hX10 hY8 hO8 hbb8 hb9 hb10 hb11 hbA x0 x1 x2 x3 x4 x5 x6 x7 y0 y1 y2 y3 y4 y5 y6 y7
          obtain ⟨y0, y1, y2, _⟩ := pcAt_S hY11
          have f0 : w11.frozen? ⟨g, 0, none⟩ = false := by simp [World.frozen?, show w11.heap[g]? = _ from hY11]
          have f1 : w11.frozen? ⟨g, 1, none⟩ = false := by simp [World.frozen?, show w11.heap[g]? = _ from hY11]
          have f2 : w11.frozen? ⟨g, 2, none⟩ = false := by simp [World.frozen?, show w11.heap[g]? = _ from hY11]
          have hz : PcAt (((w11.setCell ⟨g, 0, none⟩ (.int .i64 0)).setCell ⟨g, 1, none⟩ (.int .i64 0)).setCell ⟨g, 2, none⟩ (.string { data := #[] })) g ⟨0, 0, { data := #[] }⟩ := block_setCell (i := 2) (u := .string { data := #[] }) (block_setCell (i := 1) (u := .int .i64 0) (block_setCell (i := 0) (u := .int .i64 0) hY11))
          have hbz := (((hbb11.setCell (p := ⟨g, 0, none⟩) (Nat.le_refl _) (.int .i64 0)).setCell (p := ⟨g, 1, none⟩) (Nat.le_refl _) (.int .i64 0)).setCell (p := ⟨g, 2, none⟩) (Nat.le_refl _) (.string { data := #[] }))
          go_wp2
          generalize ((w11.setCell ⟨g, 0, none⟩ (.int .i64 0)).setCell ⟨g, 1, none⟩ (.int .i64 0)).setCell ⟨g, 2, none⟩ (.string { data := #[] }) = wz at hz hbz ⊢
          obtain ⟨d0, d1, d2, _⟩ := pcAt_S hz
          refine bodyPost_ret (v := .agg #[.int .i64 0, .int .i64 0, .string { data := #[] }]) (by simp [results, Try.results61, go_sem, d0, d1, d2]) rfl ⟨rfl, by rw [HG.out]; exact hbz⟩
    · obtain rfl : k = l.length := by omega
      have hqv := (hqy (fun j hj => hJ.out j hj)).out
      have HQ := Lib.hid hqv
      rw [hfin.out] at hO7
      clear hqv hqy hqn hJ hst hstep hlen hfin hlt
      have HBy := Lib.hid (bytes_any bo bo v7 _ wr hO7)
      generalize ofL (be src 4 ++ lisL l) = RS at HQ HBy
      obtain ⟨y0, y1, y2, _⟩ := pcAt_S hY7
      have f0 : wr.frozen? ⟨g, 0, none⟩ = false := by simp [World.frozen?, show wr.heap[g]? = _ from hY7]
      have f1 : wr.frozen? ⟨g, 1, none⟩ = false := by simp [World.frozen?, show wr.heap[g]? = _ from hY7]
      have f2 : wr.frozen? ⟨g, 2, none⟩ = false := by simp [World.frozen?, show wr.heap[g]? = _ from hY7]
      have hz : PcAt (((wr.setCell ⟨g, 0, none⟩ (.int .i64 1)).setCell ⟨g, 1, none⟩ (.int .i64 211)).setCell ⟨g, 2, none⟩ (.string RS)) g ⟨1, 211, RS⟩ := block_setCell (i := 2) (u := .string RS) (block_setCell (i := 1) (u := .int .i64 211) (block_setCell (i := 0) (u := .int .i64 1) hY7))
      have hbz := (((hbb7.setCell (p := ⟨g, 0, none⟩) (Nat.le_refl _) (.int .i64 1)).setCell (p := ⟨g, 1, none⟩) (Nat.le_refl _) (.int .i64 211)).setCell (p := ⟨g, 2, none⟩) (Nat.le_refl _) (.string RS))
      go_wp2_with fail
      refine HBy.out.mono ?_
      rintro e w' ⟨rfl, rfl⟩
      go_wp2
      generalize ((wr.setCell ⟨g, 0, none⟩ (.int .i64 1)).setCell ⟨g, 1, none⟩ (.int .i64 211)).setCell ⟨g, 2, none⟩ (.string RS) = wz at hz hbz ⊢
      obtain ⟨d0, d1, d2, _⟩ := pcAt_S hz
      refine bodyPost_ret (v := .agg #[.int .i64 1, .int .i64 211, .string RS]) (by simp [results, Try.results61, go_sem, d0, d1, d2]) rfl ⟨by rw [HQ.out], by rw [HG.out]; exact hbz⟩
set_option maxHeartbeats 1600000 in
theorem liPiece_any (src : Int) (l : List LI) (a : Option Addr) (c : Nat) (w : World) (hr : ReadsL LI.vals w a l) (hl : l.length ≤ 1000) :
    Calls Try.prog 21 #[.agg #[.int .u32 src, .slice a l.length c]] w fun e w' =>
      e = .returned (.agg #[.int .i64 (lsP ⟨src, l⟩).count, .int .i64 (lsP ⟨src, l⟩).kind, .string (lsP ⟨src, l⟩).body]) ∧ Below w.heap.size w w' := by
  have HP := Lib.hid (fun W (h : Below w.heap.size w W) => pieceL_any src l a c W (hr.later h) hl)
  have h0 : l.length = 0 → Hid (lsP ⟨src, l⟩ = zeroPC) := fun h => Lib.hid (by unfold lsP; rw [if_pos (List.length_eq_zero_iff.1 h)])
  have h1 : l.length ≠ 0 → Hid (lsP ⟨src, l⟩ = lqP ⟨src, l⟩) := fun h => Lib.hid (by unfold lsP; rw [if_neg (fun e => h (by show l.length = 0; rw [show l = [] from e]; rfl))])
  generalize lsP ⟨src, l⟩ = q at h0 h1 ⊢
  generalize lqP ⟨src, l⟩ = q1 at HP h1
  clear hr
  have hX1 := atC_new 29 w #[.int .u32 src, .slice a l.length c]
  have hX2 := hX1.alloc (.cells #[.int .i64 0, .int .i64 0, .string { data := #[] }] 33)
  have hY2 := pc_new (w.alloc (.cells #[.int .u32 src, .slice a l.length c] 29)) zeroPC
  have hb2 : Below w.heap.size w ((w.alloc (.cells #[.int .u32 src, .slice a l.length c] 29)).alloc (.cells #[.int .i64 0, .int .i64 0, .string { data := #[] }] 33)) := by go_grown
  have hne : (w.alloc (.cells #[.int .u32 src, .slice a l.length c] 29)).heap.size = w.heap.size + 1 := by simp
  rw [hne] at hY2
  unfold zeroPC at hY2
  simp only at hY2
  clear hX1 hne
  go_enter Try.func21, Try.ntmps21
  go_upto_region 1 with fail
  generalize (w.alloc (.cells #[.int .u32 src, .slice a l.length c] 29)).alloc (.cells #[.int .i64 0, .int .i64 0, .string { data := #[] }] 33) = w2 at hX2 hY2 hb2 ⊢
  have hgB : w.heap.size ≤ w.heap.size + 1 := by omega
  generalize hg2 : w.heap.size + 1 = g2 at hY2 hgB ⊢
  generalize hg : w.heap.size = g at hX2 hb2 hgB HP ⊢
  have HG := Lib.hid hg
  clear hg2 hg
  obtain ⟨x0, x1⟩ := hX2.cells2
  by_cases hl0 : l.length = 0
  · have hq := (h0 hl0).out
    subst hq
    have hl0' : ((l.length : Nat) : Int) = 0 := by omega
    clear h0 h1 HP hl
    obtain ⟨y0, y1, y2, _⟩ := pcAt_S hY2
    have f0 : w2.frozen? ⟨g2, 0, none⟩ = false := by simp [World.frozen?, show w2.heap[g2]? = _ from hY2]
    have f1 : w2.frozen? ⟨g2, 1, none⟩ = false := by simp [World.frozen?, show w2.heap[g2]? = _ from hY2]
    have f2 : w2.frozen? ⟨g2, 2, none⟩ = false := by simp [World.frozen?, show w2.heap[g2]? = _ from hY2]
    have hz : PcAt (((w2.setCell ⟨g2, 0, none⟩ (.int .i64 0)).setCell ⟨g2, 1, none⟩ (.int .i64 0)).setCell ⟨g2, 2, none⟩ (.string { data := #[] })) g2 ⟨0, 0, { data := #[] }⟩ := block_setCell (i := 2) (u := .string { data := #[] }) (block_setCell (i := 1) (u := .int .i64 0) (block_setCell (i := 0) (u := .int .i64 0) hY2))
    have hbz := (((hb2.setCell (p := ⟨g2, 0, none⟩) hgB (.int .i64 0)).setCell (p := ⟨g2, 1, none⟩) hgB (.int .i64 0)).setCell (p := ⟨g2, 2, none⟩) hgB (.string { data := #[] }))
    go_wp2
    generalize ((w2.setCell ⟨g2, 0, none⟩ (.int .i64 0)).setCell ⟨g2, 1, none⟩ (.int .i64 0)).setCell ⟨g2, 2, none⟩ (.string { data := #[] }) = wz at hz hbz ⊢
    obtain ⟨d0, d1, d2, _⟩ := pcAt_S hz
    refine bodyPost_ret (v := .agg #[.int .i64 0, .int .i64 0, .string { data := #[] }]) (by simp [results, Try.results21, go_sem, d0, d1, d2]) rfl ⟨rfl, by rw [HG.out]; exact hbz⟩
  · have hq := (h1 hl0).out
    subst hq
    obtain ⟨qc, qk, qs⟩ := q
    simp only at HP
    have hl1 : (((l.length : Nat) : Int) == 0) = false := by rw [beq_eq_false_iff_ne]; omega
    clear h0 h1
    go_wp2_with fail
    refine (HP.out _ hb2).mono ?_
    rintro e w3 ⟨rfl, hb3⟩
    have hY3 : PcAt w3 g2 ⟨0, 0, { data := #[] }⟩ := hY2.later hb3
    have hbb3 := hb2.trans (hb3.mono (by have := hX2.lt; omega))
    clear hX2 hY2 hb2 hb3 x0 x1
    obtain ⟨y0, y1, y2, _⟩ := pcAt_S hY3
    have f0 : w3.frozen? ⟨g2, 0, none⟩ = false := by simp [World.frozen?, show w3.heap[g2]? = _ from hY3]
    have f1 : w3.frozen? ⟨g2, 1, none⟩ = false := by simp [World.frozen?, show w3.heap[g2]? = _ from hY3]
    have f2 : w3.frozen? ⟨g2, 2, none⟩ = false := by simp [World.frozen?, show w3.heap[g2]? = _ from hY3]
    have hz : PcAt (((w3.setCell ⟨g2, 0, none⟩ (.int .i64 qc)).setCell ⟨g2, 1, none⟩ (.int .i64 qk)).setCell ⟨g2, 2, none⟩ (.string qs)) g2 ⟨qc, qk, qs⟩ := block_setCell (i := 2) (u := .string qs) (block_setCell (i := 1) (u := .int .i64 qk) (block_setCell (i := 0) (u := .int .i64 qc) hY3))
    have hbz := (((hbb3.setCell (p := ⟨g2, 0, none⟩) hgB (.int .i64 qc)).setCell (p := ⟨g2, 1, none⟩) hgB (.int .i64 qk)).setCell (p := ⟨g2, 2, none⟩) hgB (.string qs))
    go_wp2
    generalize ((w3.setCell ⟨g2, 0, none⟩ (.int .i64 qc)).setCell ⟨g2, 1, none⟩ (.int .i64 qk)).setCell ⟨g2, 2, none⟩ (.string qs) = wz at hz hbz ⊢
    obtain ⟨d0, d1, d2, _⟩ := pcAt_S hz
    refine bodyPost_ret (v := .agg #[.int .i64 qc, .int .i64 qk, .string qs]) (by simp [results, Try.results21, go_sem, d0, d1, d2]) rfl ⟨rfl, by rw [HG.out]; exact hbz⟩
end Go.Proofs.Ytjoikidnnhjogaa

