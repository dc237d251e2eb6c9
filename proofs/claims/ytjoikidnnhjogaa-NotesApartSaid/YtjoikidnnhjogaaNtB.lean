/- notes.App.Piece. -/
import Derived.Test.YtjoikidnnhjogaaNtA
import Derived.Test.YtjoikidnnhjogaaRtpW
namespace Go.Proofs.Ytjoikidnnhjogaa
open Go.RowKit
set_option linter.unusedVariables false
theorem out_at (W : World) (B n : Nat) (hB : B ≤ W.heap.size) (h : n = W.heap.size) : OutAt (W.alloc (.cells #[.slice none 0 0] 137)) B n (.slice none 0 0) [] := by subst h; exact out_new W B hB
set_option maxRecDepth 100000 in
set_option maxHeartbeats 6400000 in
theorem apPiece_any (a : AP) (w : World) (hn : a.name.size ≤ 9223372036854775807) (hd : a.data.size ≤ 9223372036854775807) :
    Calls Try.prog 35 #[.agg #[.int .i64 a.sub, .int .u32 a.src, .string a.name, .string a.data]] w fun e w' =>
      e = .returned (.agg #[.int .i64 (apP a).count, .int .i64 (apP a).kind, .string (apP a).body]) ∧ Below w.heap.size w w' := by
  obtain ⟨q, hq⟩ : ∃ q, apP a = q := ⟨_, rfl⟩
  rw [hq]
  by_cases hm : apMay a
  · have HM := Lib.hid (fun W => apMay_any a W hn hd true (by simp [hm]))
    have hqv : q = ⟨a.sub, 204, ofL (apL a)⟩ := by rw [← hq]; unfold apP; rw [if_pos hm]
    have hKd := Lib.hid hqv
    have hm3 := hm.2.2.1
    have hm5 := hm.2.2.2.2
    clear hq hqv hm hn hd
    have HL : Hid ([] ++ bes [a.src] 4 ++ cat [a.name, a.data] = apL a) := Lib.hid (by unfold apL; rw [bes_one]; simp [cat])
    have hcl : (cat [a.name, a.data]).length = a.name.size + a.data.size := by simp [cat, by_len]
    generalize apL a = AL at hKd HL
    obtain ⟨sub, src, name, data⟩ := a
    simp only at *
    have hX1 := atC_new 76 w #[.int .i64 sub, .int .u32 src, .string name, .string data]
    have hX2 := hX1.alloc (.cells #[.int .i64 0, .int .i64 0, .string { data := #[] }] 33)
    have hY2 := pc_new (w.alloc (.cells #[.int .i64 sub, .int .u32 src, .string name, .string data] 76)) zeroPC
    have hb2 : Below w.heap.size w ((w.alloc (.cells #[.int .i64 sub, .int .u32 src, .string name, .string data] 76)).alloc (.cells #[.int .i64 0, .int .i64 0, .string { data := #[] }] 33)) := by go_grown
    have hne : (w.alloc (.cells #[.int .i64 sub, .int .u32 src, .string name, .string data] 76)).heap.size = w.heap.size + 1 := by simp
    rw [hne] at hY2
    unfold zeroPC at hY2
    simp only at hY2
    clear hX1 hne
    go_enter Try.func35, Try.ntmps35
    go_upto_region 1 with fail
    generalize (w.alloc (.cells #[.int .i64 sub, .int .u32 src, .string name, .string data] 76)).alloc (.cells #[.int .i64 0, .int .i64 0, .string { data := #[] }] 33) = w2 at hX2 hY2 hb2 ⊢
    have hgB : w.heap.size ≤ w.heap.size + 1 := by omega
    have hgn : w.heap.size ≠ w.heap.size + 1 := by omega
    generalize hg2 : w.heap.size + 1 = g2 at hY2 hgB hgn ⊢
    generalize hg : w.heap.size = g at hX2 hb2 hgB hgn ⊢
    have HG := Lib.hid hg
    clear hg2 hg
    obtain ⟨x0, x1, x2, x3⟩ := hX2.cells4
    go_wp2_with fail
    refine (HM.out _).mono ?_
    rintro e w3 ⟨rfl, hb3⟩
    have hX3 := hX2.later hb3
    have hY3 := hY2.later hb3
    have hbb3 := hb2.trans (hb3.mono (by have := hX2.lt; omega))
    clear hX2 hY2 hb2 hb3 x0 x1 x2 x3 HM
    obtain ⟨x0, x1, x2, x3⟩ := hX3.cells4
    have hg3 : g < w3.heap.size := hX3.lt
    have hg23 : g2 < w3.heap.size := hY3.lt
    go_upto_region 3 with fail
    have HX3 := Lib.hid hX3
    have hSS : ∀ W : World, AtC 76 W g #[.int .i64 sub, .int .u32 src, .string name, .string data] → W.cell? ⟨g, 0, none⟩ = some (.int .i64 sub) ∧ W.cell? ⟨g, 1, none⟩ = some (.int .u32 src) ∧ W.cell? ⟨g, 2, none⟩ = some (.string name) ∧ W.cell? ⟨g, 3, none⟩ = some (.string data) ∧ AtC 76 W g #[.int .i64 sub, .int .u32 src, .string name, .string data] := fun W h => by
      obtain ⟨a0, a1, a2, a3⟩ := h.cells4
      exact ⟨a0, a1, a2, a3, h⟩
    go_cut [3] (fun z3 wx => ∃ (b : Nat) (v : Value), z3 = .pointer (some ⟨b, 0, none⟩) ∧ g2 < b ∧ OutAt wx g b v AL ∧ AtC 76 wx g #[.int .i64 sub, .int .u32 src, .string name, .string data] ∧ PcAt wx g2 ⟨0, 0, { data := #[] }⟩ ∧ Below g w wx)
    case first =>
      go_region_held3 (fun W => W.cell? ⟨g, 0, none⟩ = some (.int .i64 sub) ∧ W.cell? ⟨g, 1, none⟩ = some (.int .u32 src) ∧ W.cell? ⟨g, 2, none⟩ = some (.string name) ∧ W.cell? ⟨g, 3, none⟩ = some (.string data) ∧ AtC 76 W g #[.int .i64 sub, .int .u32 src, .string name, .string data]) (first | (go_keep; done) | exact hSS _ (AtC.drew (by go_split_ands; assumption)) | exact hSS _ (AtC.alloc (by go_split_ands; assumption) _) | exact hSS _ (AtC.oth (by go_split_ands; assumption) (by decide) (by assumption) (by first | omega | (simp; omega))) | (go_split_ands; assumption)) (first | (go_at_call 65; refine (u32_g g _ (.slice none 0 0) [] [src] #[.int .u32 src] 1 _ _ _ ?x0 (Below.refl _ _) ?x2 ?x3 rfl rfl ?x4 ?x5).mono ?_; (case x0 => (repeat (first | with_reducible exact out_at _ _ _ (by first | omega | (simp; omega)) (by first | rfl | (simp; done)) | with_reducible refine OutAt.drew ?_ | with_reducible refine OutAt.alloc ?_ _))); (case x2 => (repeat (first | with_reducible refine heap_at_drew ?_ | with_reducible exact heap_at_new _ _ _ (by first | rfl | (simp; done)) | with_reducible refine heap_at_old _ _ _ _ ?_))); (case x3 => first | omega | (simp; done) | (simp; omega)); (case x4 => simp); (case x5 => simp); rintro e w4 ⟨rfl, v4, hO4, h4, ho4⟩; have q4 := hO4.lt; have hb4 : Below g w w4 := Below.trans (by repeat (first | with_reducible exact hbb3 | with_reducible refine Below.drew ?_ | with_reducible refine Below.alloc ?_ (by first | omega | (simp; omega)) _)) h4; have hY4 : PcAt w4 g2 ⟨0, 0, { data := #[] }⟩ := PcAt.others (by repeat (first | with_reducible exact hY3 | with_reducible refine PcAt.drew ?_ | with_reducible refine PcAt.alloc ?_ _)) (by first | omega | (simp; omega)) ho4) | (go_at_call 67; refine (outRaw_g g _ v4 ([] ++ bes [src] 4) [name, data] #[.string name, .string data] 2 _ w4 _ hO4 ?x1 ?x2 ?x3 rfl rfl ?x4 ?x5).mono ?_; (case x1 => go_grown); (case x2 => (repeat (first | with_reducible refine heap_at_drew ?_ | with_reducible exact heap_at_new _ _ _ (by first | rfl | (simp; done)) | with_reducible refine heap_at_old _ _ _ _ ?_ | (refine ho4 _ _ ?_ (by first | omega | (simp; omega)) (by intro cur p e; cases e))))); (case x3 => first | omega | (simp; done) | (simp; omega)); (case x4 => simp [bes_len, hcl]; omega); (case x5 => simp; done); rintro e w5 ⟨rfl, v5, hO5, h5, ho5⟩; have q5 := hO5.lt; have hb5 : Below g w w5 := Below.trans (by repeat (first | with_reducible exact hb4 | with_reducible refine Below.drew ?_ | with_reducible refine Below.alloc ?_ (by first | omega | (simp; omega)) _)) h5; have hY5 : PcAt w5 g2 ⟨0, 0, { data := #[] }⟩ := PcAt.others (by repeat (first | with_reducible exact hY4 | with_reducible refine PcAt.drew ?_ | with_reducible refine PcAt.alloc ?_ _)) (by first | omega | (simp; omega)) ho5))
      all_goals
        rw [HL.out] at hO5
        go_wp2_with fail
        go_meet
        refine ⟨_, v5, rfl, ?_, hO5, by (first | assumption | (go_split_ands; assumption)), hY5, hb5⟩
        first | omega | (simp; omega)
    case rest =>
    obtain ⟨b, v6, rfl, hgb, hO6, hX6, hY6, hbb6⟩ := hcut
    rename World => w6
    clear hX3 hY3 hbb3 hg3 hg23 HX3 hSS x0 x1 x2 x3 HL
    obtain ⟨x0, x1, x2, x3⟩ := hX6.cells4
    obtain ⟨y0, y1, y2, _⟩ := pcAt_S hY6
    have f0 : w6.frozen? ⟨g2, 0, none⟩ = false := by simp [World.frozen?, show w6.heap[g2]? = _ from hY6]
    have f1 : w6.frozen? ⟨g2, 1, none⟩ = false := by simp [World.frozen?, show w6.heap[g2]? = _ from hY6]
    have f2 : w6.frozen? ⟨g2, 2, none⟩ = false := by simp [World.frozen?, show w6.heap[g2]? = _ from hY6]
    have HBy := Lib.hid (bytes_any g b v6 _ w6 hO6)
    have HBd := Lib.hid (bytes_any g b v6 _ w6.drew hO6.drew)
    generalize ofL AL = RS at HBy HBd hKd
    go_wp2_with fail
    go_region_law (first | (go_simp; go_at_call 70; refine HBy.out.mono ?_; rintro e w' ⟨rfl, rfl⟩) | (go_simp; go_at_call 70; refine HBd.out.mono ?_; rintro e w' ⟨rfl, rfl⟩))
    all_goals
      have hz : PcAt (((w6.setCell ⟨g2, 0, none⟩ (.int .i64 sub)).setCell ⟨g2, 1, none⟩ (.int .i64 204)).setCell ⟨g2, 2, none⟩ (.string RS)) g2 ⟨sub, 204, RS⟩ := block_setCell (i := 2) (u := .string RS) (block_setCell (i := 1) (u := .int .i64 204) (block_setCell (i := 0) (u := .int .i64 sub) hY6))
      have hbz := (((hbb6.setCell (p := ⟨g2, 0, none⟩) hgB (.int .i64 sub)).setCell (p := ⟨g2, 1, none⟩) hgB (.int .i64 204)).setCell (p := ⟨g2, 2, none⟩) hgB (.string RS))
      go_wp2
      generalize ((w6.setCell ⟨g2, 0, none⟩ (.int .i64 sub)).setCell ⟨g2, 1, none⟩ (.int .i64 204)).setCell ⟨g2, 2, none⟩ (.string RS) = wz at hz hbz ⊢
      obtain ⟨d0, d1, d2, _⟩ := pcAt_S hz
      refine bodyPost_ret (v := .agg #[.int .i64 sub, .int .i64 204, .string RS]) (by simp [results, Try.results35, go_sem, d0, d1, d2]) rfl ⟨by rw [hKd.out], by rw [HG.out]; first | exact hbz | exact hbz.drew⟩
  · have hqv : q = zeroPC := by rw [← hq]; unfold apP; rw [if_neg hm]
    have HC := Lib.hid (fun W => apMay_any a W hn hd false (by simp [hm]))
    subst hqv
    clear hq hm
    obtain ⟨sub, src, name, data⟩ := a
    simp only at *
    have hX1 := atC_new 76 w #[.int .i64 sub, .int .u32 src, .string name, .string data]
    have hX2 := hX1.alloc (.cells #[.int .i64 0, .int .i64 0, .string { data := #[] }] 33)
    have hY2 := pc_new (w.alloc (.cells #[.int .i64 sub, .int .u32 src, .string name, .string data] 76)) zeroPC
    have hb2 : Below w.heap.size w ((w.alloc (.cells #[.int .i64 sub, .int .u32 src, .string name, .string data] 76)).alloc (.cells #[.int .i64 0, .int .i64 0, .string { data := #[] }] 33)) := by go_grown
    have hne : (w.alloc (.cells #[.int .i64 sub, .int .u32 src, .string name, .string data] 76)).heap.size = w.heap.size + 1 := by simp
    rw [hne] at hY2
    unfold zeroPC at hY2 ⊢
    simp only at hY2 ⊢
    clear hX1 hne
    go_enter Try.func35, Try.ntmps35
    go_upto_region 1 with fail
    generalize (w.alloc (.cells #[.int .i64 sub, .int .u32 src, .string name, .string data] 76)).alloc (.cells #[.int .i64 0, .int .i64 0, .string { data := #[] }] 33) = w2 at hX2 hY2 hb2 ⊢
    have hgB : w.heap.size ≤ w.heap.size + 1 := by omega
    generalize hg2 : w.heap.size + 1 = g2 at hY2 hgB ⊢
    generalize hg : w.heap.size = g at hX2 hb2 hgB ⊢
    have HG := Lib.hid hg
    clear hg2 hg
    obtain ⟨x0, x1, x2, x3⟩ := hX2.cells4
    go_wp2_with fail
    refine (HC.out _).mono ?_
    rintro e w3 ⟨rfl, hb3⟩
    have hY7 := hY2.later hb3
    have hbb7 := hb2.trans (hb3.mono (by have := hX2.lt; omega))
    clear hX2 hY2 hb2 hb3 x0 x1 x2 x3 HC
    obtain ⟨y0, y1, y2, _⟩ := pcAt_S hY7
    have f0 : w3.frozen? ⟨g2, 0, none⟩ = false := by simp [World.frozen?, show w3.heap[g2]? = _ from hY7]
    have f1 : w3.frozen? ⟨g2, 1, none⟩ = false := by simp [World.frozen?, show w3.heap[g2]? = _ from hY7]
    have f2 : w3.frozen? ⟨g2, 2, none⟩ = false := by simp [World.frozen?, show w3.heap[g2]? = _ from hY7]
    have hz : PcAt (((w3.setCell ⟨g2, 0, none⟩ (.int .i64 0)).setCell ⟨g2, 1, none⟩ (.int .i64 0)).setCell ⟨g2, 2, none⟩ (.string { data := #[] })) g2 ⟨0, 0, { data := #[] }⟩ := block_setCell (i := 2) (u := .string { data := #[] }) (block_setCell (i := 1) (u := .int .i64 0) (block_setCell (i := 0) (u := .int .i64 0) hY7))
    have hbz := (((hbb7.setCell (p := ⟨g2, 0, none⟩) hgB (.int .i64 0)).setCell (p := ⟨g2, 1, none⟩) hgB (.int .i64 0)).setCell (p := ⟨g2, 2, none⟩) hgB (.string { data := #[] }))
    go_wp2
    generalize ((w3.setCell ⟨g2, 0, none⟩ (.int .i64 0)).setCell ⟨g2, 1, none⟩ (.int .i64 0)).setCell ⟨g2, 2, none⟩ (.string { data := #[] }) = wz at hz hbz ⊢
    obtain ⟨d0, d1, d2, _⟩ := pcAt_S hz
    refine bodyPost_ret (v := .agg #[.int .i64 0, .int .i64 0, .string { data := #[] }]) (by simp [results, Try.results35, go_sem, d0, d1, d2]) rfl ⟨rfl, by rw [HG.out]; first | exact hbz | exact hbz.drew⟩
end Go.Proofs.Ytjoikidnnhjogaa

