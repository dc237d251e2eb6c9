/- gaps: the document's New. -/
import Derived.Test.YtdbmhgfdcdcgfaaGpK
import Derived.Test.YtdbmhgfdcdcgfaaGpP
namespace Go.Proofs.Ytdbmhgfdcdcgfaa
open Go.RowKit
set_option linter.unusedVariables false
set_option linter.unusedSimpArgs false
section
variable {T : TypeId} {W : World} {g : Nat} {c0 c1 c2 c3 c4 c5 c6 c7 : Value}
theorem at8_put8 (h : At8 T W g c0 c1 c2 c3 c4 c5 c6 c7) (d0 d1 d2 d3 d4 d5 d6 d7 : Value) : At8 T ((((((((W.setCell ⟨g, 0, none⟩ d0).setCell ⟨g, 1, none⟩ d1).setCell ⟨g, 2, none⟩ d2).setCell ⟨g, 3, none⟩ d3).setCell ⟨g, 4, none⟩ d4).setCell ⟨g, 5, none⟩ d5).setCell ⟨g, 6, none⟩ d6).setCell ⟨g, 7, none⟩ d7) g d0 d1 d2 d3 d4 d5 d6 d7 :=
  at8_set7 (at8_set6 (at8_set5 (at8_set4 (at8_put4 h d0 d1 d2 d3) d4) d5) d6) d7
theorem put8_only (W : World) (g : Nat) (d0 d1 d2 d3 d4 d5 d6 d7 : Value) : Only g W ((((((((W.setCell ⟨g, 0, none⟩ d0).setCell ⟨g, 1, none⟩ d1).setCell ⟨g, 2, none⟩ d2).setCell ⟨g, 3, none⟩ d3).setCell ⟨g, 4, none⟩ d4).setCell ⟨g, 5, none⟩ d5).setCell ⟨g, 6, none⟩ d6).setCell ⟨g, 7, none⟩ d7) :=
  ((((((((Only.refl g W).setCell 0 d0).setCell 1 d1).setCell 2 d2).setCell 3 d3).setCell 4 d4).setCell 5 d5).setCell 6 d6).setCell 7 d7
end
/-- The document's Gaps, as a value. -/
def grG (c : GC) (v : Value) (cm : Bool) (gr gv : Int) : Value := .agg #[.int .i64 c.m, .int .i64 c.t, .int .i64 c.f, .int .i64 c.a, v, .bool cm, .int .i64 gr, .int .i64 gv]
set_option maxRecDepth 100000 in
set_option maxHeartbeats 3200000 in
theorem refGpNew_any (c : GC) (w : World) : Calls Try.prog 9 #[c.val] w fun e w' => e = .returned (grG c.clip (.slice none 0 0) false 0 0) ∧ Below w.heap.size w w' := by
  have HCl := Lib.hid (fun W => refGpClip_any c W)
  generalize hcl : c.clip = cl at HCl ⊢
  obtain ⟨m, t, f, a⟩ := c
  obtain ⟨m', t', f', a'⟩ := cl
  simp only [GC.val, grG] at HCl ⊢
  clear hcl
  have hX0 := (at4_new 23 w w.heap.size (.int .i64 m) (.int .i64 t) (.int .i64 f) (.int .i64 a) rfl).alloc (.cells #[.int .i64 0, .int .i64 0, .int .i64 0, .int .i64 0, .slice none 0 0, .bool false, .int .i64 0, .int .i64 0] 31)
  have hX1 := at8_new 31 (w.alloc (.cells #[.int .i64 m, .int .i64 t, .int .i64 f, .int .i64 a] 23)) (w.heap.size + 1) (.int .i64 0) (.int .i64 0) (.int .i64 0) (.int .i64 0) (.slice none 0 0) (.bool false) (.int .i64 0) (.int .i64 0) (by simp)
  have hb : Below w.heap.size w ((w.alloc (.cells #[.int .i64 m, .int .i64 t, .int .i64 f, .int .i64 a] 23)).alloc (.cells #[.int .i64 0, .int .i64 0, .int .i64 0, .int .i64 0, .slice none 0 0, .bool false, .int .i64 0, .int .i64 0] 31)) := ((Below.refl _ _).alloc (Nat.le_refl _) _).alloc (by simp) _
  go_enter Try.func9, Try.ntmps9
  go_upto_region 1 with fail
  generalize ((w.alloc (.cells #[.int .i64 m, .int .i64 t, .int .i64 f, .int .i64 a] 23)).alloc (.cells #[.int .i64 0, .int .i64 0, .int .i64 0, .int .i64 0, .slice none 0 0, .bool false, .int .i64 0, .int .i64 0] 31)) = w2 at *
  generalize hg1 : w.heap.size + 1 = g1 at *
  generalize hg0 : w.heap.size = g0 at *
  have HG := Lib.hid hg0
  have hle1 : g0 ≤ g1 := by omega
  have hsz2 : g0 ≤ w2.heap.size := Nat.le_of_lt hX0.lt
  clear hg0 hg1
  obtain ⟨_, _, _, _⟩ := hX0.cells
  go_wp2_with fail
  refine (HCl.out w2).mono ?_
  rintro e w3 ⟨rfl, hb3⟩
  have hX13 := hX1.later hb3
  have hb3' := hb.trans (hb3.mono hsz2)
  obtain ⟨_, _, _, _, _, _, _, _⟩ := hX13.frees
  obtain ⟨_, _, _, _, _, _, _, _⟩ := hX13.cells
  have hZ := at8_put8 hX13 (.int .i64 m') (.int .i64 t') (.int .i64 f') (.int .i64 a') (.slice none 0 0) (.bool false) (.int .i64 0) (.int .i64 0)
  have hbz := hb3'.trans ((put8_only w3 g1 (.int .i64 m') (.int .i64 t') (.int .i64 f') (.int .i64 a') (.slice none 0 0) (.bool false) (.int .i64 0) (.int .i64 0)).below hle1)
  obtain ⟨d0, d1, d2, d3, d4, d5, d6, d7⟩ := hZ.cells
  clear hb3 hX0 hX1 hX13
  go_wp2_with fail
  refine bodyPost_ret (v := .agg #[.int .i64 m', .int .i64 t', .int .i64 f', .int .i64 a', .slice none 0 0, .bool false, .int .i64 0, .int .i64 0]) (by simp [results, Try.results9, go_sem, d0, d1, d2, d3, d4, d5, d6, d7]) rfl ⟨rfl, by rw [HG.out]; exact hbz⟩
end Go.Proofs.Ytdbmhgfdcdcgfaa
