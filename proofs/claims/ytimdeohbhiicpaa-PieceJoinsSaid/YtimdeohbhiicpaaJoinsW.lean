/- PieceJoins: the walk. -/
import Derived.Test.YtimdeohbhiicpaaPcJ
namespace Go.Proofs.Ytimdeohbhiicpaa
open Go.RowKit
set_option linter.unusedVariables false
namespace pieceJoins
set_option maxRecDepth 100000 in
set_option maxHeartbeats 4000000 in
theorem walk (p0 : Option Addr) (len0 cap0 : Nat) (p1 : Option Addr) (len1 cap1 : Nat) (w : World) (w0 : Recs [isNum .i64, isNum .i64, isText] w p0 len0) (l0 : len0 ≤ 9223372036854775807) (w1 : Recs [isNum .i64, isNum .i64, isText] w p1 len1) (l1 : len1 ≤ 9223372036854775807) :
    Calls Try.prog 7 #[.slice p0 len0 cap0, .slice p1 len1 cap1] w fun e w' => e = .returned (.bool true) ∧ Below w.heap.size w w' := by
  obtain ⟨i0, hi0, hz0, hz1, hz2⟩ := info_parts infoPc
  obtain ⟨j0, hj0, hy0, hy1, hy2⟩ := info_parts infoPr
  obtain ⟨B, hB⟩ : ∃ B, w.heap.size = B := ⟨_, rfl⟩
  have HB := Lib.hid hB
  go_enter Try.func7, Try.ntmps7
  go_wp2_with fail
  refine (pcAwake_any _).mono ?_
  rintro e w2 ⟨rfl, hb0⟩
  rw [hB] at hb0
  clear hB
  go_upto_block 0 with fail
  go_cut [5, 7] (fun v5 v7 wx => ∃ l : List PC, wx.ownsRow B 64 3 v5 l.length (pcsV l) ∧ wx.ownsRow B 63 3 v7 l.length (pcsV l) ∧ l.length ≤ 5 ∧ Hid (okL l) ∧ Below B w wx)
  case first =>
    go_wp2_with fail
    go_loopw [5, 7, 8] (fun v5 v7 i wr => ∃ (k : Nat) (l : List PC), k ≤ len0 ∧ k ≤ 5 ∧ i = .int .i64 k ∧ wr.ownsRow B 64 3 v5 l.length (pcsV l) ∧ wr.ownsRow B 63 3 v7 l.length (pcsV l) ∧ l.length ≤ k ∧ Hid (okL l) ∧ Below B w wr) (fun _ _ i _ => 5 - (intOf i).toNat)
    case atStart => exact ⟨0, [], Nat.zero_le _, by decide, rfl, World.ownsRow_nil _ _ _ _, World.ownsRow_nil _ _ _ _, Nat.le_refl _, Lib.hid okL_nil, hb0⟩
    case round =>
      obtain ⟨k, l, hk, hk5, rfl, hown5, hown7, hlk, HM, hb⟩ := hrel
      clear hb0
      by_cases hlt : k < len0
      · by_cases hlt5 : k < 5
        · obtain ⟨b, off, rfl, c, kd, s, hc0, hc1, hc2, hs⟩ := piece_at w0 (by rw [HB.out]; exact hb) hlt
          have HC := Lib.hid (fun W : World => cut_any s 60 W hs (by decide))
          have hsz := (cut_size s 60).1
          obtain ⟨bd, hbd⟩ : ∃ bd, cutB s 60 = bd := ⟨_, rfl⟩
          rw [hbd] at HC hsz
          clear hbd
          have hX := heap_alloc_new wr (.cells #[.int .i64 c, .int .i64 kd, .string bd] 63 (0, 0))
          have hbs : B ≤ wr.heap.size := by rw [← HB.out]; exact hb.size
          go_wp2_with fail
          refine (HC.out _).mono ?_
          rintro e w3 ⟨rfl, rfl⟩
          go_wp2_with fail
          by_cases hmp : pcMay ⟨c, kd, bd⟩
          · refine (pcMay_any ⟨c, kd, bd⟩ _ (by show bd.size ≤ _; omega) true (by simp [hmp])).mono ?_
            rintro e w4 ⟨rfl, hb4⟩
            have hX4 : BoxAt w4 wr.heap.size ⟨c, kd, bd⟩ := BoxAt.later hX hb4
            have hown5b := own_laterN (hown5.alloc _) hb4
            have hown7b := own_laterN (hown7.alloc _) hb4
            have hn5 := own_lt_ne hown5 wr.heap.size (Nat.le_refl _)
            have hn7 := own_lt_ne hown7 wr.heap.size (Nat.le_refl _)
            have hbb : Below B w w4 := (hb.alloc hbs _).trans (hb4.mono (by simp; omega))
            have hbs4 : B ≤ w4.heap.size := by have := hb4.size; simp at this; omega
            have hg4 : wr.heap.size < w4.heap.size := by have := hb4.size; simp at this; omega
            clear hX hb4 hown5 hown7 hc0 hc1 hc2 HC
            generalize wr.heap.size = g at hX4 hn5 hn7 hbs hg4 ⊢
            clear hb
            obtain ⟨b0, b1, b2, _⟩ := boxAt_S hX4
            have HQ := Lib.hid (okL_snoc HM.out hmp hsz)
            clear hmp
            go_wp2_with fail
            go_region_held3 (fun W => W.cell? ⟨g, 0, none⟩ = some (.int .i64 c) ∧ W.cell? ⟨g, 1, none⟩ = some (.int .i64 kd) ∧ W.cell? ⟨g, 2, none⟩ = some (.string bd) ∧ BoxAt W g ⟨c, kd, bd⟩) (first | (go_keep; done) | exact boxAt_S (BoxAt.drew (by go_split_ands; assumption)) | exact boxAt_S (BoxAt.alloc (by go_split_ands; assumption) _) | exact boxAt_S (BoxAt.grew (by go_split_ands; assumption) (by assumption) hn5) | exact boxAt_S (BoxAt.grew (by go_split_ands; assumption) (by assumption) hn7) | (go_split_ands; assumption)) (first | ((refine step_app (by rfl) (.tmp 36) (.tmp 38) 54 (by rfl) B 64 i0 (.agg #[.int .i64 0, .int .i64 0, .string { data := #[] }]) 3 32 Try.underlying54 hi0 hz0 hz1 hz2 (by rfl) (by decide) u5 l.length (pcsV l) (by rfl) (by repeat (first | with_reducible exact hown5b | with_reducible refine World.ownsRow.drew ?_ | with_reducible refine World.ownsRow.alloc ?_ _ | with_reducible refine hG7.own (by decide) ?_)) _ #[.int .i64 c, .int .i64 kd, .string bd] (by rfl) (by repeat (first | with_reducible refine heap_at_drew ?_ | with_reducible exact heap_at_new _ _ _ (by first | rfl | (simp; done)) | with_reducible refine heap_at_old _ _ _ _ ?_ | (with_reducible refine hG7.block ?_ (by first | exact own_lt_ne hown5b _ (by first | omega | (simp; omega)) | exact own_lt_ne hown7b _ (by first | omega | (simp; omega)))))) (by rfl) (by intro u hu; simp at hu; rcases hu with rfl | rfl | rfl <;> rfl) (by unfold maxLen; first | omega | (rw [List.length_append]; omega)) (by first | omega | (rw [List.length_append]; omega)) (by first | omega | (simp; omega) | (have q := hG7.size; simp at q ⊢; omega)) ?_; intro x5 W5 hN5 hG5)) | ((refine step_app (by rfl) (.tmp 40) (.tmp 42) 57 (by rfl) B 63 j0 (.agg #[.int .i64 0, .int .i64 0, .string { data := #[] }]) 3 32 Try.underlying57 hj0 hy0 hy1 hy2 (by rfl) (by decide) u7 l.length (pcsV l) (by rfl) (by repeat (first | with_reducible exact hown7b | with_reducible refine World.ownsRow.drew ?_ | with_reducible refine World.ownsRow.alloc ?_ _ | with_reducible refine hG5.own (by decide) ?_)) _ #[.int .i64 c, .int .i64 kd, .string bd] (by rfl) (by repeat (first | with_reducible refine heap_at_drew ?_ | with_reducible exact heap_at_new _ _ _ (by first | rfl | (simp; done)) | with_reducible refine heap_at_old _ _ _ _ ?_ | (with_reducible refine hG5.block ?_ (by first | exact own_lt_ne hown5b _ (by first | omega | (simp; omega)) | exact own_lt_ne hown7b _ (by first | omega | (simp; omega)))))) (by rfl) (by intro u hu; simp at hu; rcases hu with rfl | rfl | rfl <;> rfl) (by unfold maxLen; first | omega | (rw [List.length_append]; omega)) (by first | omega | (rw [List.length_append]; omega)) (by first | omega | (simp; omega) | (have q := hG5.size; simp at q ⊢; omega)) ?_; intro x7 W7 hN7 hG7)))
            all_goals
              go_wp2
              go_roundw
              case rel =>
                refine ⟨k + 1, l ++ [⟨c, kd, bd⟩], by omega, by omega, by go_num, ?_, ?_, by rw [List.length_append]; show l.length + 1 ≤ _; omega, HQ, ?_⟩
                · rw [pcsV_snoc, List.length_append]
                  show World.ownsRow _ _ _ _ _ (l.length + 1) (pcsV l ++ #[Value.int .i64 c, .int .i64 kd, .string bd].toList)
                  (repeat (first | with_reducible exact hN5 | with_reducible refine World.ownsRow.drew ?_ | with_reducible refine World.ownsRow.alloc ?_ _ | with_reducible refine hG7.own (by decide) ?_))
                · rw [pcsV_snoc, List.length_append]
                  show World.ownsRow _ _ _ _ _ (l.length + 1) (pcsV l ++ #[Value.int .i64 c, .int .i64 kd, .string bd].toList)
                  (repeat (first | with_reducible exact hN7 | with_reducible refine World.ownsRow.drew ?_ | with_reducible refine World.ownsRow.alloc ?_ _ | with_reducible refine hG5.own (by decide) ?_))
                · (repeat (first | with_reducible exact hbb | with_reducible refine Below.drew ?_ | with_reducible refine Below.alloc ?_ (by first | omega | (simp; omega) | (have q := hG7.size; simp at q ⊢; omega) | (have q := hG5.size; simp at q ⊢; omega)) _ | with_reducible refine hG7.below (by omega) ?_ | with_reducible refine hG5.below (by omega) ?_))
              case measure => simp [intOf]; omega
          · refine (pcMay_any ⟨c, kd, bd⟩ _ (by show bd.size ≤ _; omega) false (by simp [hmp])).mono ?_
            rintro e w4 ⟨rfl, hb4⟩
            have hown5b := own_laterN (hown5.alloc _) hb4
            have hown7b := own_laterN (hown7.alloc _) hb4
            have hbb : Below B w w4 := (hb.alloc hbs _).trans (hb4.mono (by simp; omega))
            have hbs4 : B ≤ w4.heap.size := by have := hb4.size; simp at this; omega
            clear hX hb4 hown5 hown7 hc0 hc1 hc2 HC hmp
            go_wp2
            go_roundw
            case rel => exact ⟨k + 1, l, by omega, by omega, by go_num, hown5b, hown7b, by omega, HM, hbb⟩
            case measure => simp [intOf]; omega
        · go_wp2
          go_meet
          exact ⟨l, hown5, hown7, by omega, HM, hb⟩
      · go_wp2
        go_meet
        exact ⟨l, hown5, hown7, by omega, HM, hb⟩
  case rest =>
  obtain ⟨l, hown5, hown7, hl5, HM1, hb1⟩ := hcut
  clear hb0
  rename World => wa
  obtain ⟨B2, hB2'⟩ : ∃ B2, wa.heap.size = B2 := ⟨_, rfl⟩
  have hB2 : B2 ≤ wa.heap.size := by omega
  have H5 := Lib.hid (fun k (h : u5.ownBlock = some k) => (show k < B2 by have := (hown5.lt k h).2; omega))
  have hBB : B ≤ B2 := by rw [← hB2', ← HB.out]; exact hb1.size
  clear hB2'
  have hb0 := hb1
  clear hb1
  go_upto_block 2 with fail
  go_cut [6, 7] (fun v6 v7 wx => ∃ m : List PC, wx.ownsRow B2 64 3 v6 m.length (pcsV m) ∧ wx.ownsRow B 63 3 v7 (l ++ m).length (pcsV (l ++ m)) ∧ m.length ≤ 5 ∧ Hid (okL m) ∧ Below B w wx ∧ wx.ownsRow B 64 3 u5 l.length (pcsV l) ∧ B2 ≤ wx.heap.size)
  case first =>
    go_wp2_with fail
    go_loopw [6, 7, 10] (fun v6 v7 i wr => ∃ (k : Nat) (m : List PC), k ≤ len1 ∧ k ≤ 5 ∧ i = .int .i64 k ∧ wr.ownsRow B2 64 3 v6 m.length (pcsV m) ∧ wr.ownsRow B 63 3 v7 (l ++ m).length (pcsV (l ++ m)) ∧ m.length ≤ k ∧ Hid (okL m) ∧ Below B w wr ∧ wr.ownsRow B 64 3 u5 l.length (pcsV l) ∧ B2 ≤ wr.heap.size) (fun _ _ i _ => 5 - (intOf i).toNat)
    case atStart => exact ⟨0, [], Nat.zero_le _, by decide, rfl, World.ownsRow_nil _ _ _ _, by rw [List.append_nil]; exact hown7, Nat.le_refl _, Lib.hid okL_nil, hb0, hown5, hB2⟩
    case round =>
      obtain ⟨k, m, hk, hk5, rfl, hown6, hown7, hlk, HM, hb, hown5, hB2⟩ := hrel
      clear hb0
      by_cases hlt : k < len1
      · by_cases hlt5 : k < 5
        · obtain ⟨b, off, rfl, c, kd, s, hc0, hc1, hc2, hs⟩ := piece_at w1 (by rw [HB.out]; exact hb) hlt
          have HC := Lib.hid (fun W : World => cut_any s 60 W hs (by decide))
          have hsz := (cut_size s 60).1
          obtain ⟨bd, hbd⟩ : ∃ bd, cutB s 60 = bd := ⟨_, rfl⟩
          rw [hbd] at HC hsz
          clear hbd
          have hX := heap_alloc_new wr (.cells #[.int .i64 c, .int .i64 kd, .string bd] 63 (0, 0))
          have hbs : B ≤ wr.heap.size := by rw [← HB.out]; exact hb.size
          go_wp2_with fail
          refine (HC.out _).mono ?_
          rintro e w3 ⟨rfl, rfl⟩
          go_wp2_with fail
          by_cases hmp : pcMay ⟨c, kd, bd⟩
          · refine (pcMay_any ⟨c, kd, bd⟩ _ (by show bd.size ≤ _; omega) true (by simp [hmp])).mono ?_
            rintro e w4 ⟨rfl, hb4⟩
            have hX4 : BoxAt w4 wr.heap.size ⟨c, kd, bd⟩ := BoxAt.later hX hb4
            have hown6b := own_laterN (hown6.alloc _) hb4
            have hown7b := own_laterN (hown7.alloc _) hb4
            have hown5b := own_laterN (hown5.alloc _) hb4
            have hne := apart_base H5.out hown6
            have hn5 := own_lt_ne hown6 wr.heap.size (Nat.le_refl _)
            have hn7 := own_lt_ne hown7 wr.heap.size (Nat.le_refl _)
            have hbb : Below B w w4 := (hb.alloc hbs _).trans (hb4.mono (by simp; omega))
            have hbs4 : B ≤ w4.heap.size := by have := hb4.size; simp at this; omega
            have hg4 : wr.heap.size < w4.heap.size := by have := hb4.size; simp at this; omega
            clear hX hb4 hown6 hown7 hc0 hc1 hc2 HC
            generalize wr.heap.size = g at hX4 hn5 hn7 hbs hg4 hB2 ⊢
            clear hb hown5
            obtain ⟨b0, b1, b2, _⟩ := boxAt_S hX4
            have HQ := Lib.hid (okL_snoc HM.out hmp hsz)
            clear hmp
            have hB4 : B2 ≤ w4.heap.size := by omega
            go_wp2_with fail
            go_region_held3 (fun W => W.cell? ⟨g, 0, none⟩ = some (.int .i64 c) ∧ W.cell? ⟨g, 1, none⟩ = some (.int .i64 kd) ∧ W.cell? ⟨g, 2, none⟩ = some (.string bd) ∧ BoxAt W g ⟨c, kd, bd⟩) (first | (go_keep; done) | exact boxAt_S (BoxAt.drew (by go_split_ands; assumption)) | exact boxAt_S (BoxAt.alloc (by go_split_ands; assumption) _) | exact boxAt_S (BoxAt.grew (by go_split_ands; assumption) (by assumption) hn5) | exact boxAt_S (BoxAt.grew (by go_split_ands; assumption) (by assumption) hn7) | (go_split_ands; assumption)) (first | ((refine step_app (by rfl) (.tmp 64) (.tmp 66) 54 (by rfl) B2 64 i0 (.agg #[.int .i64 0, .int .i64 0, .string { data := #[] }]) 3 32 Try.underlying54 hi0 hz0 hz1 hz2 (by rfl) (by decide) u6 m.length (pcsV m) (by rfl) (by repeat (first | with_reducible exact hown6b | with_reducible refine World.ownsRow.drew ?_ | with_reducible refine World.ownsRow.alloc ?_ _ | with_reducible refine hG7.own (by decide) ?_)) _ #[.int .i64 c, .int .i64 kd, .string bd] (by rfl) (by repeat (first | with_reducible refine heap_at_drew ?_ | with_reducible exact heap_at_new _ _ _ (by first | rfl | (simp; done)) | with_reducible refine heap_at_old _ _ _ _ ?_ | (with_reducible refine hG7.block ?_ (by first | exact own_lt_ne hown6b _ (by first | omega | (simp; omega)) | exact own_lt_ne hown7b _ (by first | omega | (simp; omega)))))) (by rfl) (by intro u hu; simp at hu; rcases hu with rfl | rfl | rfl <;> rfl) (by unfold maxLen; first | omega | (rw [List.length_append]; omega)) (by first | omega | (rw [List.length_append]; omega)) (by first | omega | (simp; omega) | (have q := hG7.size; simp at q ⊢; omega)) ?_; intro x6 W6 hN6 hG6)) | ((refine step_app (by rfl) (.tmp 68) (.tmp 70) 57 (by rfl) B 63 j0 (.agg #[.int .i64 0, .int .i64 0, .string { data := #[] }]) 3 32 Try.underlying57 hj0 hy0 hy1 hy2 (by rfl) (by decide) u7 (l ++ m).length (pcsV (l ++ m)) (by rfl) (by repeat (first | with_reducible exact hown7b | with_reducible refine World.ownsRow.drew ?_ | with_reducible refine World.ownsRow.alloc ?_ _ | with_reducible refine hG6.own (by decide) ?_)) _ #[.int .i64 c, .int .i64 kd, .string bd] (by rfl) (by repeat (first | with_reducible refine heap_at_drew ?_ | with_reducible exact heap_at_new _ _ _ (by first | rfl | (simp; done)) | with_reducible refine heap_at_old _ _ _ _ ?_ | (with_reducible refine hG6.block ?_ (by first | exact own_lt_ne hown6b _ (by first | omega | (simp; omega)) | exact own_lt_ne hown7b _ (by first | omega | (simp; omega)))))) (by rfl) (by intro u hu; simp at hu; rcases hu with rfl | rfl | rfl <;> rfl) (by unfold maxLen; first | omega | (rw [List.length_append]; omega)) (by first | omega | (rw [List.length_append]; omega)) (by first | omega | (simp; omega) | (have q := hG6.size; simp at q ⊢; omega)) ?_; intro x7 W7 hN7 hG7)))
            all_goals
              go_wp2
              go_roundw
              case rel =>
                refine ⟨k + 1, m ++ [⟨c, kd, bd⟩], by omega, by omega, by go_num, ?_, ?_, by rw [List.length_append]; show m.length + 1 ≤ _; omega, HQ, ?_, ?_, ?_⟩
                · rw [pcsV_snoc, List.length_append]
                  show World.ownsRow _ _ _ _ _ (m.length + 1) (pcsV m ++ #[Value.int .i64 c, .int .i64 kd, .string bd].toList)
                  (repeat (first | with_reducible exact hN6 | with_reducible refine World.ownsRow.drew ?_ | with_reducible refine World.ownsRow.alloc ?_ _ | with_reducible refine hG7.own (by decide) ?_))
                · rw [← List.append_assoc, pcsV_snoc, List.length_append]
                  show World.ownsRow _ _ _ _ _ ((l ++ m).length + 1) (pcsV (l ++ m) ++ #[Value.int .i64 c, .int .i64 kd, .string bd].toList)
                  (repeat (first | with_reducible exact hN7 | with_reducible refine World.ownsRow.drew ?_ | with_reducible refine World.ownsRow.alloc ?_ _ | with_reducible refine hG6.own (by decide) ?_))
                · (repeat (first | with_reducible exact hbb | with_reducible refine Below.drew ?_ | with_reducible refine Below.alloc ?_ (by first | omega | (simp; omega) | (have q := hG7.size; simp at q ⊢; omega) | (have q := hG6.size; simp at q ⊢; omega)) _ | with_reducible refine hG7.below (by omega) ?_ | with_reducible refine hG6.below (by omega) ?_))
                · (repeat (first | with_reducible exact hown5b | with_reducible refine World.ownsRow.drew ?_ | with_reducible refine World.ownsRow.alloc ?_ _ | with_reducible refine hG7.own (by decide) ?_ | with_reducible refine hG6.own2 hne ?_))
                · first | omega | (have q := hG7.size; have q2 := hG6.size; simp at q q2 ⊢; omega)
              case measure => simp [intOf]; omega
          · refine (pcMay_any ⟨c, kd, bd⟩ _ (by show bd.size ≤ _; omega) false (by simp [hmp])).mono ?_
            rintro e w4 ⟨rfl, hb4⟩
            have hown6b := own_laterN (hown6.alloc _) hb4
            have hown7b := own_laterN (hown7.alloc _) hb4
            have hown5b := own_laterN (hown5.alloc _) hb4
            have hbb : Below B w w4 := (hb.alloc hbs _).trans (hb4.mono (by simp; omega))
            have hbs4 : B2 ≤ w4.heap.size := by have := hb4.size; simp at this; omega
            clear hX hb4 hown6 hown7 hc0 hc1 hc2 HC hmp hown5
            go_wp2
            go_roundw
            case rel => exact ⟨k + 1, m, by omega, by omega, by go_num, hown6b, hown7b, by omega, HM, hbb, hown5b, hbs4⟩
            case measure => simp [intOf]; omega
        · go_wp2
          go_meet
          exact ⟨m, hown6, hown7, by omega, HM, hb, hown5, hB2⟩
      · go_wp2
        go_meet
        exact ⟨m, hown6, hown7, by omega, HM, hb, hown5, hB2⟩
  case rest =>
  obtain ⟨m, hown6, hown7, hm5, HM2, hb1, hown5, hB3⟩ := hcut
  rename World => wb
  obtain ⟨a5, c5, rfl, _, _, _, hr5⟩ := own_readsP hown5
  obtain ⟨a6, c6, rfl, _, _, _, hr6⟩ := own_readsP hown6
  obtain ⟨a7, c7, rfl, _, _, _, hr7⟩ := own_readsP hown7
  have hM := okL_app HM1.out HM2.out
  have hlen : (l ++ m).length ≤ 10 := by rw [List.length_append]; omega
  have hsz := pcsL_len_le (l ++ m) 60 hM.2
  have hs9 : (ofL (pcsL (l ++ m))).size ≤ 1000000000 := by
    rw [ofL_size]
    have : (l ++ m).length * (4 + 60) ≤ 10 * (4 + 60) := Nat.mul_le_mul_right _ hlen
    omega
  have hsp := split_pack (l ++ m) hM.1
  have hfn : finL (ofL (pcsL (l ++ m))) = l ++ m := by unfold finL; rw [hsp, if_pos rfl]
  have hS0 := fun W => split_any (ofL (pcsL (l ++ m))) W hs9
  unfold Splitted at hS0
  rw [hsp, hfn] at hS0
  have hP5 := pcPack_any l a5 c5 wb hr5 (by omega) (fun q hq => Nat.le_trans (HM1.out.2 q hq) (by decide))
  have hP6 := fun W (hr : ReadsP W a6 m) => pcPack_any m a6 c6 W hr (by omega) (fun q hq => Nat.le_trans (HM2.out.2 q hq) (by decide))
  rw [pcsS_good l HM1.out.1] at hP5
  rw [pcsS_good m HM2.out.1] at hP6
  have hadd : ∀ W : World, Sem.run Try.prog (Op.stringOp .add (ofL (pcsL l)) (ofL (pcsL m))) W = Result.ok (.string (ofL (pcsL (l ++ m)))) W := fun W => by
    rw [pcsL_append, ofL_append]
    refine run_string_add_sum _ _ _ ?_
    have h2 := hs9
    rw [ofL_size, pcsL_append, List.length_append] at h2
    rw [ofL_size, ofL_size]
    omega
  have HI := Lib.hid (fun (a a2 : Option Addr) (c c2 : Nat) (W : World) (hr : ReadsP W a (l ++ m)) (hr2 : ReadsP W a2 (l ++ m)) => is_any (l ++ m) a a2 c c2 W hr hr2 (by omega))
  generalize l ++ m = lm at hS0 hadd HI hr7 ⊢
  generalize ofL (pcsL lm) = T at hS0 hadd
  have z5 : (ofL (pcsL l)).size ≤ 1000 := by
    rw [ofL_size]
    have := pcsL_len_le l 60 HM1.out.2
    have : l.length * (4 + 60) ≤ 5 * (4 + 60) := Nat.mul_le_mul_right _ hl5
    omega
  have z6 : (ofL (pcsL m)).size ≤ 1000 := by
    rw [ofL_size]
    have := pcsL_len_le m 60 HM2.out.2
    have : m.length * (4 + 60) ≤ 5 * (4 + 60) := Nat.mul_le_mul_right _ hm5
    omega
  generalize ofL (pcsL l) = T5 at hP5 hadd z5
  generalize ofL (pcsL m) = T6 at hP6 hadd z6
  have HS := Lib.hid hS0
  have HP5 := Lib.hid hP5
  have HP6 := Lib.hid hP6
  clear hS0 hP5 hP6 hM hlen hsz hs9 hsp hfn hown5 hown6 hown7 H5 HM1 HM2 hl5 hm5 hr5 hb0 hB2 hBB hB3
  have hbz : Below w.heap.size w wb := by rw [HB.out]; exact hb1
  clear hb1
  go_wp2_with fail
  refine HP5.out.mono ?_
  rintro e w5 ⟨rfl, hb5⟩
  have hbz5 := hbz.trans (hb5.mono hbz.size)
  have hr65 := hr6.later hb5
  have hr75 := hr7.later hb5
  clear hb5 hbz hr6 hr7
  go_wp2_with fail
  refine (HP6.out _ hr65).mono ?_
  rintro e w6 ⟨rfl, hb6⟩
  have hbz6 := hbz5.trans (hb6.mono hbz5.size)
  have hr76 := hr75.later hb6
  clear hb6 hbz5 hr65 hr75
  go_wp2_with fail
  refine (HS.out _).mono ?_
  rintro e w7 ⟨hb7, a8, c8, rfl, hr8⟩
  have hbz7 := hbz6.trans (hb7.mono hbz6.size)
  have hr77 := hr76.later hb7
  clear hb7 hbz6 hr76
  go_wp2_with fail
  refine (HI.out a8 a7 c8 c7 _ hr8 hr77).mono ?_
  rintro e w8 ⟨rfl, hb8⟩
  go_wp2
  go_ret
  exact ⟨rfl, hbz7.trans (hb8.mono hbz7.size)⟩
end pieceJoins
end Go.Proofs.Ytimdeohbhiicpaa
