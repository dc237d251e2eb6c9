/- The document's AppPiece. -/
import Derived.Test.YtkchhiiomahbaaaNtA
import Derived.Test.YtkchhiiomahbaaaRtpBP
import Derived.Test.YtkchhiiomahbaaaPcJ
import Derived.Deep.RegionHeld3
namespace Go.Proofs.Ytkchhiiomahbaaa
open Go.RowKit
set_option linter.unusedVariables false
theorem boxAt_newA (W : World) (p : PC) : BoxAt (W.alloc (.cells #[.int .i64 p.count, .int .i64 p.kind, .string p.body] 23)) W.heap.size p := heap_alloc_new W _
set_option maxRecDepth 100000 in
set_option maxHeartbeats 3200000 in
theorem refAppPiece_any (a : AP) (w : World) (hn : a.name.size ≤ 1000000) (hd : a.data.size ≤ 1000000) (h0 : 0 ≤ a.src) (h1 : a.src ≤ 4294967295) :
    Calls Try.prog 42 #[.agg #[.int .i64 a.sub, .int .i64 a.src, .string a.name, .string a.data]] w fun e w' =>
      e = .returned (.agg #[.int .i64 (apP a).count, .int .i64 (apP a).kind, .string (apP a).body]) ∧ Below w.heap.size w w' := by
  obtain ⟨q, hq⟩ : ∃ q, apP a = q := ⟨_, rfl⟩
  rw [hq]
  have hX1 := atC_new 70 w #[.int .i64 a.sub, .int .i64 a.src, .string a.name, .string a.data]
  have hX2 := hX1.alloc (.cells #[.int .i64 0, .int .i64 0, .string { data := #[] }] 23)
  have hY2 := boxAt_newA (w.alloc (.cells #[.int .i64 a.sub, .int .i64 a.src, .string a.name, .string a.data] 70)) zeroPC
  have hb2 : Below w.heap.size w ((w.alloc (.cells #[.int .i64 a.sub, .int .i64 a.src, .string a.name, .string a.data] 70)).alloc (.cells #[.int .i64 0, .int .i64 0, .string { data := #[] }] 23)) := by go_grown
  have hne : (w.alloc (.cells #[.int .i64 a.sub, .int .i64 a.src, .string a.name, .string a.data] 70)).heap.size = w.heap.size + 1 := by simp
  rw [hne] at hY2
  unfold zeroPC at hY2
  simp only at hY2
  clear hX1 hne
  by_cases hm : apMay a
  · have hqv : q = ⟨a.sub, 204, ofL (apL a)⟩ := by rw [← hq]; unfold apP; rw [if_pos hm]
    have hKd := Lib.hid hqv
    obtain ⟨m1, m2, m3, m4, m5⟩ := hm
    have hres : Hid (apL a = be a.src 4 ++ by_ a.name ++ by_ a.data) := Lib.hid rfl
    generalize apL a = AL at hKd hres
    clear hq hqv
    obtain ⟨sub, src, name, data⟩ := a
    simp only at *
    have k1 : ¬ sub < 0 := by omega
    have k2 : ¬ 31 < sub := by omega
    have k3 : (name.size : Int) = 4 := by omega
    have k4 : (data.size : Int) % 4 = 0 := by omega
    have k5 : ¬ (1024 : Int) < (data.size : Int) := by omega
    have hU := Lib.hid (fun W => put_as 4 src 4 W rfl (by omega) (by omega) (by decide))
    have hM := be_len src 4
    have hs1 : ∀ W : World, Sem.run Try.prog (Op.stringOp .add (ofL (be src 4)) name) W = Result.ok (.string (ofL (be src 4) ++ name)) W := fun W => run_string_add_sum _ _ _ (by rw [ofL_size, hM]; omega)
    have hs2 : ∀ W : World, Sem.run Try.prog (Op.stringOp .add (ofL (be src 4) ++ name) data) W = Result.ok (.string (ofL (be src 4) ++ name ++ data)) W := fun W => run_string_add_sum _ _ _ (by rw [ByteArray.size_append, ofL_size, hM]; omega)
    have hfin : Hid (ofL (be src 4) ++ name ++ data = ofL AL) := Lib.hid (by apply by_inj; rw [hres.out]; simp only [by_append, by_ofL])
    generalize ofL (be src 4) ++ name ++ data = D2 at hs2 hfin
    generalize ofL (be src 4) ++ name = D1 at hs1 hs2
    generalize ofL (be src 4) = D0 at hs1 hU
    clear m1 m2 m3 m4 m5 hM hres hn hd
    go_enter Try.func42, Try.ntmps42
    go_upto_region 1 with fail
    generalize (w.alloc (.cells #[.int .i64 sub, .int .i64 src, .string name, .string data] 70)).alloc (.cells #[.int .i64 0, .int .i64 0, .string { data := #[] }] 23) = w2 at hX2 hY2 hb2 ⊢
    have hgB : w.heap.size ≤ w.heap.size + 1 := by omega
    have hgn : w.heap.size ≠ w.heap.size + 1 := by omega
    generalize hg2 : w.heap.size + 1 = g2 at hY2 hgB hgn ⊢
    generalize hg : w.heap.size = g at hX2 hb2 hgB hgn ⊢
    have HG := Lib.hid hg
    clear hg2 hg
    obtain ⟨x0, x1, x2, x3⟩ := hX2.cells4
    obtain ⟨y0, y1, y2, _⟩ := boxAt_S hY2
    have f0 : w2.frozen? ⟨g2, 0, none⟩ = false := by simp [World.frozen?, show w2.heap[g2]? = _ from hY2]
    have f1 : w2.frozen? ⟨g2, 1, none⟩ = false := by simp [World.frozen?, show w2.heap[g2]? = _ from hY2]
    have f2 : w2.frozen? ⟨g2, 2, none⟩ = false := by simp [World.frozen?, show w2.heap[g2]? = _ from hY2]
    have hgl : g ≤ w2.heap.size := by have := hX2.lt; omega
    have hd2 : Below w2.heap.size w2 w2.drew := by go_grown
    have HX := Lib.hid (fun W (h : Below w2.heap.size w2 W) => (show (W.cell? ⟨g2, 0, none⟩ = some (.int .i64 0) ∧ W.cell? ⟨g2, 1, none⟩ = some (.int .i64 0) ∧ W.cell? ⟨g2, 2, none⟩ = some (.string { data := #[] }) ∧ BoxAt W g2 ⟨0, 0, { data := #[] }⟩) ∧ W.frozen? ⟨g2, 0, none⟩ = false ∧ W.frozen? ⟨g2, 1, none⟩ = false ∧ W.frozen? ⟨g2, 2, none⟩ = false from by
      have hY : BoxAt W g2 ⟨0, 0, { data := #[] }⟩ := hY2.later h
      exact ⟨boxAt_S hY, by simp [World.frozen?, show W.heap[g2]? = _ from hY], by simp [World.frozen?, show W.heap[g2]? = _ from hY], by simp [World.frozen?, show W.heap[g2]? = _ from hY]⟩))
    have hSS : ∀ W : World, AtC 70 W g #[.int .i64 sub, .int .i64 src, .string name, .string data] → W.cell? ⟨g, 0, none⟩ = some (.int .i64 sub) ∧ W.cell? ⟨g, 1, none⟩ = some (.int .i64 src) ∧ W.cell? ⟨g, 2, none⟩ = some (.string name) ∧ W.cell? ⟨g, 3, none⟩ = some (.string data) ∧ AtC 70 W g #[.int .i64 sub, .int .i64 src, .string name, .string data] := fun W h => by
      obtain ⟨a0, a1, a2, a3⟩ := h.cells4
      exact ⟨a0, a1, a2, a3, h⟩
    have hS3 : ∀ (W : World) (u0 u1 u2 : Value), AtC 70 W g #[.int .i64 sub, .int .i64 src, .string name, .string data] → AtC 70 (((W.setCell ⟨g2, 0, none⟩ u0).setCell ⟨g2, 1, none⟩ u1).setCell ⟨g2, 2, none⟩ u2) g #[.int .i64 sub, .int .i64 src, .string name, .string data] := fun W u0 u1 u2 h => h.only hgn (store3_only W g2 u0 u1 u2)
    go_upto_region 3 with fail
    go_region_held3 (fun W => W.cell? ⟨g, 0, none⟩ = some (.int .i64 sub) ∧ W.cell? ⟨g, 1, none⟩ = some (.int .i64 src) ∧ W.cell? ⟨g, 2, none⟩ = some (.string name) ∧ W.cell? ⟨g, 3, none⟩ = some (.string data) ∧ AtC 70 W g #[.int .i64 sub, .int .i64 src, .string name, .string data]) (first | (go_keep; done) | exact hSS _ (AtC.drew (by go_split_ands; assumption)) | exact hSS _ (AtC.later (by go_split_ands; assumption) (by assumption)) | exact hSS _ (hS3 _ _ _ _ (by go_split_ands; assumption)) | (go_split_ands; assumption)) (first | (go_at_call 70; refine (hU.out _).mono ?_; rintro e w5 ⟨rfl, hb5⟩; have hh5 := hd2.trans hb5; obtain ⟨⟨_, _, _, hY5⟩, _, _, _⟩ := HX.out _ hh5))
    all_goals
      have hbb5 := hb2.trans (hh5.mono hgl)
      have hz : BoxAt (((w5.setCell ⟨g2, 0, none⟩ (.int .i64 sub)).setCell ⟨g2, 1, none⟩ (.int .i64 204)).setCell ⟨g2, 2, none⟩ (.string D2)) g2 ⟨sub, 204, D2⟩ := block_setCell (i := 2) (u := .string D2) (block_setCell (i := 1) (u := .int .i64 204) (block_setCell (i := 0) (u := .int .i64 sub) hY5))
      have hbz := (((hbb5.setCell (p := ⟨g2, 0, none⟩) hgB (.int .i64 sub)).setCell (p := ⟨g2, 1, none⟩) hgB (.int .i64 204)).setCell (p := ⟨g2, 2, none⟩) hgB (.string D2))
      go_wp2
      generalize ((w5.setCell ⟨g2, 0, none⟩ (.int .i64 sub)).setCell ⟨g2, 1, none⟩ (.int .i64 204)).setCell ⟨g2, 2, none⟩ (.string D2) = wz at hz hbz ⊢
      obtain ⟨d0, d1, d2, _⟩ := boxAt_S hz
      refine bodyPost_ret (v := .agg #[.int .i64 sub, .int .i64 204, .string D2]) (by simp [results, Try.results42, go_sem, d0, d1, d2]) rfl ⟨by rw [hKd.out, ← hfin.out], by rw [HG.out]; exact hbz⟩
  · have hqv : q = zeroPC := by rw [← hq]; unfold apP; rw [if_neg hm]
    subst hqv
    unfold apMay at hm
    clear hq
    obtain ⟨sub, src, name, data⟩ := a
    unfold zeroPC
    simp only at *
    have hbad : sub < 0 ∨ (¬ sub < 0 ∧ 31 < sub) ∨ (¬ sub < 0 ∧ ¬ 31 < sub ∧ ((name.size : Int) != 4) = true) ∨ (¬ sub < 0 ∧ ¬ 31 < sub ∧ (name.size : Int) = 4 ∧ ((data.size : Int) % 4 != 0) = true) ∨ (¬ sub < 0 ∧ ¬ 31 < sub ∧ (name.size : Int) = 4 ∧ (data.size : Int) % 4 = 0 ∧ (1024 : Int) < (data.size : Int)) := by
      simp only [bne_iff_ne, ne_eq]
      omega
    clear hm
    go_enter Try.func42, Try.ntmps42
    go_upto_region 1 with fail
    generalize (w.alloc (.cells #[.int .i64 sub, .int .i64 src, .string name, .string data] 70)).alloc (.cells #[.int .i64 0, .int .i64 0, .string { data := #[] }] 23) = w2 at hX2 hY2 hb2 ⊢
    have hgB : w.heap.size ≤ w.heap.size + 1 := by omega
    generalize hg2 : w.heap.size + 1 = g2 at hY2 hgB ⊢
    generalize hg : w.heap.size = g at hX2 hb2 hgB ⊢
    have HG := Lib.hid hg
    clear hg2 hg
    obtain ⟨x0, x1, x2, x3⟩ := hX2.cells4
    obtain ⟨y0, y1, y2, _⟩ := boxAt_S hY2
    have f0 : w2.frozen? ⟨g2, 0, none⟩ = false := by simp [World.frozen?, show w2.heap[g2]? = _ from hY2]
    have f1 : w2.frozen? ⟨g2, 1, none⟩ = false := by simp [World.frozen?, show w2.heap[g2]? = _ from hY2]
    have f2 : w2.frozen? ⟨g2, 2, none⟩ = false := by simp [World.frozen?, show w2.heap[g2]? = _ from hY2]
    have hz : BoxAt (((w2.setCell ⟨g2, 0, none⟩ (.int .i64 0)).setCell ⟨g2, 1, none⟩ (.int .i64 0)).setCell ⟨g2, 2, none⟩ (.string { data := #[] })) g2 ⟨0, 0, { data := #[] }⟩ := block_setCell (i := 2) (u := .string { data := #[] }) (block_setCell (i := 1) (u := .int .i64 0) (block_setCell (i := 0) (u := .int .i64 0) hY2))
    have hbz := (((hb2.setCell (p := ⟨g2, 0, none⟩) hgB (.int .i64 0)).setCell (p := ⟨g2, 1, none⟩) hgB (.int .i64 0)).setCell (p := ⟨g2, 2, none⟩) hgB (.string { data := #[] }))
    rcases hbad with k | ⟨k, k2⟩ | ⟨k, k2, k3⟩ | ⟨k, k2, k3, k4⟩ | ⟨k, k2, k3, k4, k5⟩
    all_goals
      go_wp2
      generalize ((w2.setCell ⟨g2, 0, none⟩ (.int .i64 0)).setCell ⟨g2, 1, none⟩ (.int .i64 0)).setCell ⟨g2, 2, none⟩ (.string { data := #[] }) = wz at hz hbz ⊢
      obtain ⟨d0, d1, d2, _⟩ := boxAt_S hz
      refine bodyPost_ret (v := .agg #[.int .i64 0, .int .i64 0, .string { data := #[] }]) (by simp [results, Try.results42, go_sem, d0, d1, d2]) rfl ⟨rfl, by rw [HG.out]; exact hbz⟩
end Go.Proofs.Ytkchhiiomahbaaa
