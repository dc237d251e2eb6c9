/- history: the document's New, Get. -/
import Derived.Test.YtaekefedmobfoaaHiJ
namespace Go.Proofs.Ytaekefedmobfoaa
open Go.RowKit
set_option linter.unusedVariables false
set_option linter.unusedSimpArgs false
theorem hiC_alt (n : Int) : max 1 (min n 65535) = hiC n := by unfold hiC; omega
theorem hiT_alt (n : Int) : max 0 (min n 100) = hiT n := by unfold hiT; omega
theorem refHNew_any (m t : Int) (w : World) : Calls Try.prog 24 #[.int .i64 m, .int .i64 t] w fun e w' => e = .returned (.agg #[.int .i64 (hiC m), .int .i64 (hiT t), .int .i64 0, .slice none 0 0]) ∧ Below w.heap.size w w' := by
  rw [← hiC_alt m, ← hiT_alt t]
  have hX0 := at4_new 49 w w.heap.size (.int .i64 0) (.int .i64 0) (.int .i64 0) (.slice none 0 0) rfl
  have hb : Below w.heap.size w (w.alloc (.cells #[.int .i64 0, .int .i64 0, .int .i64 0, .slice none 0 0] 49)) := (Below.refl _ _).alloc (Nat.le_refl _) _
  go_enter Try.func24, Try.ntmps24
  go_upto_region 1 with fail
  generalize (w.alloc (.cells #[.int .i64 0, .int .i64 0, .int .i64 0, .slice none 0 0] 49)) = w2 at hX0 hb ⊢
  generalize hg0 : w.heap.size = g0 at hX0 hb ⊢
  have HG := Lib.hid hg0
  clear hg0
  obtain ⟨_, _, _, _⟩ := hX0.frees
  obtain ⟨_, _, _, _⟩ := hX0.cells
  have hZ := at4_put hX0 (.int .i64 (max 1 (min m 65535))) (.int .i64 (max 0 (min t 100))) (.int .i64 0) (.slice none 0 0)
  have hbz := hb.trans ((put4_only w2 g0 (.int .i64 (max 1 (min m 65535))) (.int .i64 (max 0 (min t 100))) (.int .i64 0) (.slice none 0 0)).below (Nat.le_refl _))
  obtain ⟨d0, d1, d2, d3⟩ := hZ.cells
  go_wp2_with fail
  refine bodyPost_ret (v := .agg #[.int .i64 (max 1 (min m 65535)), .int .i64 (max 0 (min t 100)), .int .i64 0, .slice none 0 0]) (by simp [results, Try.results24, go_sem, d0, d1, d2, d3]) rfl ⟨rfl, by rw [HG.out]; exact hbz⟩
theorem hiFind_first (s : Int) (l : List HR) (k : Nat) (r : HR) (h : ∀ j x, j < k → l[j]? = some x → x.s ≠ s) (hk : l[k]? = some r) (hr : r.s = s) : hiFind s l = some r := by
  induction l generalizing k with
  | nil => simp at hk
  | cons a l ih =>
    unfold hiFind at ih ⊢
    cases k with
    | zero =>
      simp at hk
      subst hk
      simp [hr]
    | succ k =>
      have h0 := h 0 a (by omega) rfl
      rw [List.find?_cons_of_neg (by simpa using h0)]
      exact ih k (fun j x hj hx => h (j + 1) x (by omega) (by simpa using hx)) (by simpa using hk)
theorem hiFind_noneAll (s : Int) (l : List HR) (h : ∀ j x, j < l.length → l[j]? = some x → x.s ≠ s) : hiFind s l = none := by
  unfold hiFind
  rw [List.find?_eq_none]
  intro x hx
  obtain ⟨j, hj⟩ := List.getElem?_of_mem hx
  have := h j x (List.getElem?_eq_some_iff.1 hj).1 hj
  simpa using this
set_option maxRecDepth 100000 in
set_option maxHeartbeats 3200000 in
theorem refHGet_any {w : World} {vl : Value} {l : List HR} {n : Nat} (M T G s : Int) (hL : OwnE w 0 125 4 vl n (hiV l)) (hn : n ≤ 1073741824) :
    Calls Try.prog 63 #[.agg #[.int .i64 M, .int .i64 T, .int .i64 G, vl], .int .i64 s] w fun e w' => e = .returned (.tuple #[((hiFind s l).getD hiZ).val, .bool (hiFind s l).isSome]) ∧ Below w.heap.size w w' := by
  obtain ⟨a, cap, rfl, hnc, hcm, hln, hrd⟩ := hL.rdr
  unfold maxLen at hcm
  have hX0 := (at4_new 49 w w.heap.size (.int .i64 M) (.int .i64 T) (.int .i64 G) (.slice a n cap) rfl).alloc (.cells #[.int .i64 0, .int .i64 0, .int .i64 0, .string (⟨#[]⟩ : ByteArray)] 125)
  have hX1 := at4_new 125 (w.alloc (.cells #[.int .i64 M, .int .i64 T, .int .i64 G, .slice a n cap] 49)) (w.heap.size + 1) (.int .i64 0) (.int .i64 0) (.int .i64 0) (.string (⟨#[]⟩ : ByteArray)) (by simp)
  have hb : Below w.heap.size w ((w.alloc (.cells #[.int .i64 M, .int .i64 T, .int .i64 G, .slice a n cap] 49)).alloc (.cells #[.int .i64 0, .int .i64 0, .int .i64 0, .string (⟨#[]⟩ : ByteArray)] 125)) := ((Below.refl _ _).alloc (Nat.le_refl _) _).alloc (by simp) _
  go_enter Try.func63, Try.ntmps63
  go_upto_region 1 with fail
  generalize ((w.alloc (.cells #[.int .i64 M, .int .i64 T, .int .i64 G, .slice a n cap] 49)).alloc (.cells #[.int .i64 0, .int .i64 0, .int .i64 0, .string (⟨#[]⟩ : ByteArray)] 125)) = w2 at *
  have hrd2 := hrd.later hb
  have HR := Lib.hid (fun W (h : Below w2.heap.size w2 W) => hrd2.later h)
  have HX1 := Lib.hid (fun W (h : Below w2.heap.size w2 W) => hX1.later h)
  have HLN := Lib.hid hln
  generalize hg1 : w.heap.size + 1 = g1 at *
  generalize hg0 : w.heap.size = g0 at *
  have HG := Lib.hid hg0
  have hle1 : g0 ≤ g1 := by omega
  have hsz2 : g0 ≤ w2.heap.size := Nat.le_of_lt hX0.lt
  clear hg0 hg1 hL hrd hrd2 hln
  obtain ⟨_, _, _, _⟩ := hX0.cells
  go_wp2_with fail
  go_loopw [11] (fun i wr => ∃ k : Nat, k ≤ n ∧ i = .int .i64 k ∧ Hid (∀ j x, j < k → l[j]? = some x → x.s ≠ s) ∧ Below w2.heap.size w2 wr) (fun i _ => n - (intOf i).toNat)
  case atStart => exact ⟨0, Nat.zero_le _, rfl, Lib.hid (fun j x hj => by omega), Below.refl _ _⟩
  case round =>
    obtain ⟨k, hk, rfl, hno, hbw⟩ := hrel
    by_cases hlt : k < n
    · obtain ⟨r, hr⟩ : ∃ r, l[k]? = some r := ⟨_, List.getElem?_eq_getElem (by have := HLN.out; omega)⟩
      obtain ⟨g, off, rfl, c0, c1, c2, c3⟩ := HR.out wr hbw k r hr
      have HRR := Lib.hid hr
      have hX := at4_new 125 wr wr.heap.size (.int .i64 r.s) (.int .i64 r.t) (.int .i64 r.p) (.string r.d) rfl
      have hb3 := hbw.alloc hbw.size (.cells #[.int .i64 r.s, .int .i64 r.t, .int .i64 r.p, .string r.d] 125)
      clear hr
      go_upto_region 4 with fail
      generalize wr.alloc (.cells #[.int .i64 r.s, .int .i64 r.t, .int .i64 r.p, .string r.d] 125) = w3 at hX hb3 ⊢
      generalize wr.heap.size = g3 at hX ⊢
      clear hbw c0 c1 c2 c3
      obtain ⟨_, _, _, _⟩ := hX.cells
      by_cases he : r.s = s
      · have HF : Hid (hiFind s l = some r) := Lib.hid (hiFind_first s l k r hno.out HRR.out he)
        have hX13 := HX1.out w3 hb3
        obtain ⟨_, _, _, _⟩ := hX13.frees
        obtain ⟨_, _, _, _⟩ := hX13.cells
        have hd : (r.s == s) = true := by simpa using he
        have HE := Lib.hid he
        clear he
        have hZ := at4_put hX13 (.int .i64 r.s) (.int .i64 r.t) (.int .i64 r.p) (.string r.d)
        have hbz := (hb.trans (hb3.mono hsz2)).trans ((put4_only w3 g1 (.int .i64 r.s) (.int .i64 r.t) (.int .i64 r.p) (.string r.d)).below hle1)
        obtain ⟨d0, d1, d2, d3⟩ := hZ.cells
        go_wp2_with fail
        refine bodyPost_ret (v := .tuple #[.agg #[.int .i64 r.s, .int .i64 r.t, .int .i64 r.p, .string r.d], .bool true]) (by simp [results, Try.results63, go_sem, d0, d1, d2, d3]) rfl ⟨by rw [HF.out]; rfl, by rw [HG.out]; exact hbz⟩
      · have hd : (r.s == s) = false := by simpa using he
        have HN : Hid (∀ j x, j < k + 1 → l[j]? = some x → x.s ≠ s) := Lib.hid (fun j x hj hx => by
          rcases Nat.lt_or_ge j k with h | h
          · exact hno.out j x h hx
          · obtain rfl : j = k := by omega
            rw [HRR.out] at hx
            cases hx
            exact he)
        clear he
        go_wp2_with fail
        go_roundw
        case rel => exact ⟨k + 1, by omega, by go_num, HN, hb3⟩
        case measure => simp [intOf]; omega
    · obtain rfl : k = n := by omega
      have HF : Hid (hiFind s l = none) := Lib.hid (hiFind_noneAll s l (by rw [HLN.out]; exact hno.out))
      have hX13 := HX1.out wr hbw
      obtain ⟨_, _, _, _⟩ := hX13.frees
      obtain ⟨_, _, _, _⟩ := hX13.cells
      have hZ := at4_put hX13 (.int .i64 0) (.int .i64 0) (.int .i64 0) (.string (⟨#[]⟩ : ByteArray))
      have hbz := (hb.trans (hbw.mono hsz2)).trans ((put4_only wr g1 (.int .i64 0) (.int .i64 0) (.int .i64 0) (.string (⟨#[]⟩ : ByteArray))).below hle1)
      obtain ⟨d0, d1, d2, d3⟩ := hZ.cells
      go_wp2_with fail
      refine bodyPost_ret (v := .tuple #[.agg #[.int .i64 0, .int .i64 0, .int .i64 0, .string (⟨#[]⟩ : ByteArray)], .bool false]) (by simp [results, Try.results63, go_sem, d0, d1, d2, d3]) rfl ⟨by rw [HF.out]; rfl, by rw [HG.out]; exact hbz⟩
end Go.Proofs.Ytaekefedmobfoaa
