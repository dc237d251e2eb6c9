/- history: Get, Put. -/
import Derived.Test.YtaekefedmobfoaaHiE
namespace Go.Proofs.Ytaekefedmobfoaa
open Go.RowKit
set_option linter.unusedVariables false
set_option linter.unusedSimpArgs false
def hiZ : HR := ⟨0, 0, 0, ⟨#[]⟩⟩
/-- What place says where a number isn't kept. -/
theorem hiPlaceNone {w : World} {base gh : Nat} {m t : Int} {v : Value} {l : List HR} {ag : Int} (h : HIn w base gh m t v l ag) (s : Int) (hf : hiFind s l = none) :
    Calls Try.prog 71 #[.pointer (some ⟨gh, 0, none⟩), .int .i64 s] w fun e w' => e = .returned (.tuple #[.int .i64 (hiPos s l), .bool false]) ∧ Below w.heap.size w w' := by
  rcases Nat.lt_or_ge (hiPos s l) l.length with h1 | h1
  · exact hiPlaceNo h s _ hf (List.getElem?_eq_getElem h1)
  · exact hiPlaceEnd h s (by have := hiPos_le s l; omega)
set_option maxRecDepth 100000 in
set_option maxHeartbeats 1600000 in
theorem hiGetYes {w : World} {base gh : Nat} {m t : Int} {v : Value} {l : List HR} {ag : Int} (h : HIn w base gh m t v l ag) (s : Int) (r : HR) (hf : hiFind s l = some r) :
    Calls Try.prog 60 #[.pointer (some ⟨gh, 0, none⟩), .int .i64 s] w fun e w' => e = .returned (.tuple #[r.val, .bool true]) ∧ Below w.heap.size w w' := by
  have hX := at4_new 64 w w.heap.size (.int .i64 0) (.int .i64 0) (.int .i64 0) (.string (⟨#[]⟩ : ByteArray)) rfl
  have hb : Below w.heap.size w (w.alloc (.cells #[.int .i64 0, .int .i64 0, .int .i64 0, .string (⟨#[]⟩ : ByteArray)] 64)) := (Below.refl _ _).alloc (Nat.le_refl _) _
  have hH := h.later hb
  have HPl := Lib.hid (hiPlaceYes hH s r hf)
  obtain ⟨hp, hps⟩ := hiFind_pos h.up s r hf
  obtain ⟨a, cap, rfl, hnc, hcm, _, hrd⟩ := hH.own.rdr
  have h4 := hH.at4
  have hlt := (List.getElem?_eq_some_iff.1 hp).1
  unfold maxLen at hcm
  have hsm := h.small
  have HR := Lib.hid (fun W (hb : Below (w.alloc (.cells #[.int .i64 0, .int .i64 0, .int .i64 0, .string (⟨#[]⟩ : ByteArray)] 64)).heap.size (w.alloc (.cells #[.int .i64 0, .int .i64 0, .int .i64 0, .string (⟨#[]⟩ : ByteArray)] 64)) W) => (hrd.later hb) _ r hp)
  clear hrd hH hp hps h hf
  go_enter Try.func60, Try.ntmps60
  go_upto_region 1 with fail
  generalize (w.alloc (.cells #[.int .i64 0, .int .i64 0, .int .i64 0, .string (⟨#[]⟩ : ByteArray)] 64)) = w2 at *
  generalize hgb : w.heap.size = gb at *
  have HG := Lib.hid hgb
  clear hgb
  generalize hiPos s l = k at *
  generalize l.length = n at *
  go_wp2_with fail
  refine HPl.out.mono ?_
  rintro e w3 ⟨rfl, hk3⟩
  have hX3 := hX.later hk3
  have h43 := h4.later hk3
  obtain ⟨g, off, rfl, c0, c1, c2, c3⟩ := HR.out w3 hk3
  have hb3 := hb.trans (hk3.mono (by rw [← HG.out]; exact (show w.heap.size ≤ w2.heap.size from by have := hb.size; omega)))
  obtain ⟨_, _, _, _⟩ := hX3.frees
  obtain ⟨_, _, _, _⟩ := hX3.cells
  obtain ⟨_, _, _, _⟩ := h43.cells
  clear hX hb h4 HPl HR hk3
  have hZ := at4_put hX3 (.int .i64 r.s) (.int .i64 r.t) (.int .i64 r.p) (.string r.d)
  have hbz := hb3.trans ((put4_only w3 gb (.int .i64 r.s) (.int .i64 r.t) (.int .i64 r.p) (.string r.d)).below (Nat.le_refl _))
  obtain ⟨d0, d1, d2, d3⟩ := hZ.cells
  go_wp2_with fail
  refine bodyPost_ret (v := .tuple #[.agg #[.int .i64 r.s, .int .i64 r.t, .int .i64 r.p, .string r.d], .bool true]) (by simp [results, Try.results60, go_sem, d0, d1, d2, d3]) rfl ⟨rfl, by rw [HG.out]; exact hbz⟩
set_option maxRecDepth 100000 in
set_option maxHeartbeats 1600000 in
theorem hiGetNo {w : World} {base gh : Nat} {m t : Int} {v : Value} {l : List HR} {ag : Int} (h : HIn w base gh m t v l ag) (s : Int) (hf : hiFind s l = none) :
    Calls Try.prog 60 #[.pointer (some ⟨gh, 0, none⟩), .int .i64 s] w fun e w' => e = .returned (.tuple #[hiZ.val, .bool false]) ∧ Below w.heap.size w w' := by
  have hX := at4_new 64 w w.heap.size (.int .i64 0) (.int .i64 0) (.int .i64 0) (.string (⟨#[]⟩ : ByteArray)) rfl
  have hb : Below w.heap.size w (w.alloc (.cells #[.int .i64 0, .int .i64 0, .int .i64 0, .string (⟨#[]⟩ : ByteArray)] 64)) := (Below.refl _ _).alloc (Nat.le_refl _) _
  have HPl := Lib.hid (hiPlaceNone (h.later hb) s hf)
  clear h hf
  go_enter Try.func60, Try.ntmps60
  go_upto_region 1 with fail
  generalize (w.alloc (.cells #[.int .i64 0, .int .i64 0, .int .i64 0, .string (⟨#[]⟩ : ByteArray)] 64)) = w2 at *
  generalize hgb : w.heap.size = gb at *
  have HG := Lib.hid hgb
  clear hgb
  generalize hiPos s l = k at *
  go_wp2_with fail
  refine HPl.out.mono ?_
  rintro e w3 ⟨rfl, hk3⟩
  have hX3 := hX.later hk3
  have hb3 := hb.trans (hk3.mono (by rw [← HG.out]; exact (show w.heap.size ≤ w2.heap.size from by have := hb.size; omega)))
  obtain ⟨_, _, _, _⟩ := hX3.frees
  obtain ⟨_, _, _, _⟩ := hX3.cells
  clear hX hb HPl hk3
  have hZ := at4_put hX3 (.int .i64 0) (.int .i64 0) (.int .i64 0) (.string (⟨#[]⟩ : ByteArray))
  have hbz := hb3.trans ((put4_only w3 gb (.int .i64 0) (.int .i64 0) (.int .i64 0) (.string (⟨#[]⟩ : ByteArray))).below (Nat.le_refl _))
  obtain ⟨d0, d1, d2, d3⟩ := hZ.cells
  go_wp2_with fail
  refine bodyPost_ret (v := .tuple #[.agg #[.int .i64 0, .int .i64 0, .int .i64 0, .string (⟨#[]⟩ : ByteArray)], .bool false]) (by simp [results, Try.results60, go_sem, d0, d1, d2, d3]) rfl ⟨rfl, by rw [HG.out]; exact hbz⟩
end Go.Proofs.Ytaekefedmobfoaa
