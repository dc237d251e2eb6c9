/- ToLines of a piece of another kind. -/
import Derived.Test.YteffolbkffafbaaPcC
import Derived.Test.YteffolbkffafbaaAtN
namespace Go.Proofs.Yteffolbkffafbaa
open Go.RowKit
set_option linter.unusedVariables false
set_option maxRecDepth 100000 in
set_option maxHeartbeats 1600000 in
theorem backLinesErr_any (count kind : Int) (s : ByteArray) (w : World) (h : kind ≠ 211 ∨ count ≠ 1) :
    Calls Try.prog 95 #[.agg #[.int .i64 count, .int .i64 kind, .string s], .int .i64 1, .func (.func 96) #[] #[], .func (.func 56) #[] #[]] w fun e w' =>
      e = .returned (.tuple #[.agg #[.int .u32 0, .slice none 0 0], .int .i64 5]) ∧ Below w.heap.size w w' := by
  have hX1 := pc_new w ⟨count, kind, s⟩
  have hX2 := hX1.alloc (.cells #[.int .u32 0, .slice none 0 0] 97)
  have hY2 := atC_new 97 (w.alloc (.cells #[.int .i64 count, .int .i64 kind, .string s] 34)) #[.int .u32 0, .slice none 0 0]
  have hb2 : Below w.heap.size w ((w.alloc (.cells #[.int .i64 count, .int .i64 kind, .string s] 34)).alloc (.cells #[.int .u32 0, .slice none 0 0] 97)) := by go_grown
  have hne : (w.alloc (.cells #[.int .i64 count, .int .i64 kind, .string s] 34)).heap.size = w.heap.size + 1 := by simp
  rw [hne] at hY2
  clear hX1 hne
  go_enter Try.func95, Try.ntmps95
  go_upto_region 1 with fail
  generalize (w.alloc (.cells #[.int .i64 count, .int .i64 kind, .string s] 34)).alloc (.cells #[.int .u32 0, .slice none 0 0] 97) = w2 at hX2 hY2 hb2 ⊢
  have hgB : w.heap.size ≤ w.heap.size + 1 := by omega
  have hgn : w.heap.size ≠ w.heap.size + 1 := by omega
  generalize hg2 : w.heap.size + 1 = g2 at hY2 hgB hgn ⊢
  generalize hg : w.heap.size = g at hX2 hb2 hgB hgn ⊢
  have HG := Lib.hid hg
  clear hg2 hg
  have hX3 := hX2.alloc (.cells #[.int .u32 0, .slice none 0 0] 97)
  have hY3 := hY2.alloc (.cells #[.int .u32 0, .slice none 0 0] 97)
  have hN3 := atC_new 97 w2 #[.int .u32 0, .slice none 0 0]
  have hb3 := hb2.alloc (by have := hX2.lt; omega) (.cells #[.int .u32 0, .slice none 0 0] 97)
  have hn3 : g2 < w2.heap.size := hY2.lt
  go_upto_region 2 with fail
  generalize w2.alloc (.cells #[.int .u32 0, .slice none 0 0] 97) = w3 at hX3 hY3 hN3 hb3 ⊢
  generalize w2.heap.size = g3 at hN3 hn3 ⊢
  clear hX2 hY2 hb2
  obtain ⟨x0, x1, x2, _⟩ := pcAt_S hX3
  obtain ⟨z0, z1⟩ := hN3.cells2
  have hg3 : g < w3.heap.size := hX3.lt
  by_cases hk : kind = 211
  · have hc : count ≠ 1 := by
      rcases h with h | h
      · exact absurd hk h
      · exact h
    have n0 : (count != 1) = true := by simp [hc]
    subst hk
    obtain ⟨y0, y1⟩ := hY3.cells2
    have f0 := hY3.free 0
    have f1 := hY3.free 1
    have hZ0 : AtC 97 (w3.setCell ⟨g2, 0, none⟩ (.int .u32 0)) g2 #[.int .u32 0, .slice none 0 0] := block_setCell hY3
    have hZz : AtC 97 ((w3.setCell ⟨g2, 0, none⟩ (.int .u32 0)).setCell ⟨g2, 1, none⟩ (.slice none 0 0)) g2 #[.int .u32 0, .slice none 0 0] := block_setCell hZ0
    have hoz := ((Only.refl g2 w3).setCell 0 (.int .u32 0)).setCell 1 (.slice none 0 0)
    have hbz := hb3.trans (hoz.below hgB)
    go_wp2_with fail
    generalize ((w3.setCell ⟨g2, 0, none⟩ (.int .u32 0)).setCell ⟨g2, 1, none⟩ (.slice none 0 0)) = wz at hZz hoz hbz ⊢
    obtain ⟨d0, d1⟩ := hZz.cells2
    clear f0 f1 y0 y1
    refine bodyPost_ret (v := .tuple #[.agg #[.int .u32 0, .slice none 0 0], .int .i64 5]) (by simp [results, Try.results95, go_sem, d0, d1]) rfl ⟨rfl, by rw [HG.out]; exact hbz⟩
  · skip
    have n0 : (kind != 211) = true := by simp [hk]
    obtain ⟨y0, y1⟩ := hY3.cells2
    have f0 := hY3.free 0
    have f1 := hY3.free 1
    have hZ0 : AtC 97 (w3.setCell ⟨g2, 0, none⟩ (.int .u32 0)) g2 #[.int .u32 0, .slice none 0 0] := block_setCell hY3
    have hZz : AtC 97 ((w3.setCell ⟨g2, 0, none⟩ (.int .u32 0)).setCell ⟨g2, 1, none⟩ (.slice none 0 0)) g2 #[.int .u32 0, .slice none 0 0] := block_setCell hZ0
    have hoz := ((Only.refl g2 w3).setCell 0 (.int .u32 0)).setCell 1 (.slice none 0 0)
    have hbz := hb3.trans (hoz.below hgB)
    go_wp2_with fail
    generalize ((w3.setCell ⟨g2, 0, none⟩ (.int .u32 0)).setCell ⟨g2, 1, none⟩ (.slice none 0 0)) = wz at hZz hoz hbz ⊢
    obtain ⟨d0, d1⟩ := hZz.cells2
    clear f0 f1 y0 y1
    refine bodyPost_ret (v := .tuple #[.agg #[.int .u32 0, .slice none 0 0], .int .i64 5]) (by simp [results, Try.results95, go_sem, d0, d1]) rfl ⟨rfl, by rw [HG.out]; exact hbz⟩
set_option maxHeartbeats 1600000 in
theorem toLinesErr_any (count kind : Int) (s : ByteArray) (w : World) (h : kind ≠ 211 ∨ count ≠ 1) :
    Calls Try.prog 49 #[.agg #[.int .i64 count, .int .i64 kind, .string s]] w fun e w' =>
      e = .returned (.tuple #[.agg #[.int .u32 0, .slice none 0 0], .int .i64 5]) ∧ Below w.heap.size w w' := by
  have hX1 := pc_new w ⟨count, kind, s⟩
  have hX2 := hX1.alloc (.cells #[.int .u32 0, .slice none 0 0] 97)
  have hY2 := atC_new 97 (w.alloc (.cells #[.int .i64 count, .int .i64 kind, .string s] 34)) #[.int .u32 0, .slice none 0 0]
  have hb2 : Below w.heap.size w ((w.alloc (.cells #[.int .i64 count, .int .i64 kind, .string s] 34)).alloc (.cells #[.int .u32 0, .slice none 0 0] 97)) := by go_grown
  have hne : (w.alloc (.cells #[.int .i64 count, .int .i64 kind, .string s] 34)).heap.size = w.heap.size + 1 := by simp
  rw [hne] at hY2
  clear hX1 hne
  go_enter Try.func49, Try.ntmps49
  go_upto_region 1 with fail
  generalize (w.alloc (.cells #[.int .i64 count, .int .i64 kind, .string s] 34)).alloc (.cells #[.int .u32 0, .slice none 0 0] 97) = w2 at hX2 hY2 hb2 ⊢
  have hgB : w.heap.size ≤ w.heap.size + 1 := by omega
  generalize hg2 : w.heap.size + 1 = g2 at hY2 hgB ⊢
  generalize hg : w.heap.size = g at hX2 hb2 hgB ⊢
  have HG := Lib.hid hg
  clear hg2 hg
  obtain ⟨x0, x1, x2, _⟩ := pcAt_S hX2
  go_wp2_with fail
  refine (backLinesErr_any count kind s _ h).mono ?_
  rintro e w3 ⟨rfl, hb3⟩
  have hY3 := hY2.later hb3
  have hbb3 := hb2.trans (hb3.mono (by have := hX2.lt; omega))
  clear hX2 hY2 hb2 hb3 x0 x1 x2
  obtain ⟨y0, y1⟩ := hY3.cells2
  have f0 := hY3.free 0
  have f1 := hY3.free 1
  have hZ0 : AtC 97 (w3.setCell ⟨g2, 0, none⟩ (.int .u32 0)) g2 #[.int .u32 0, .slice none 0 0] := block_setCell hY3
  have hZz : AtC 97 ((w3.setCell ⟨g2, 0, none⟩ (.int .u32 0)).setCell ⟨g2, 1, none⟩ (.slice none 0 0)) g2 #[.int .u32 0, .slice none 0 0] := block_setCell hZ0
  have hoz := ((Only.refl g2 w3).setCell 0 (.int .u32 0)).setCell 1 (.slice none 0 0)
  have hbz := hbb3.trans (hoz.below hgB)
  go_wp2_with fail
  generalize ((w3.setCell ⟨g2, 0, none⟩ (.int .u32 0)).setCell ⟨g2, 1, none⟩ (.slice none 0 0)) = wz at hZz hoz hbz ⊢
  obtain ⟨d0, d1⟩ := hZz.cells2
  clear f0 f1 y0 y1
  refine bodyPost_ret (v := .tuple #[.agg #[.int .u32 0, .slice none 0 0], .int .i64 5]) (by simp [results, Try.results49, go_sem, d0, d1]) rfl ⟨rfl, by rw [HG.out]; exact hbz⟩
end Go.Proofs.Yteffolbkffafbaa
