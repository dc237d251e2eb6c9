/- history: the document's Again. -/
import Derived.Test.YtaekefedmobfoaaHiN
namespace Go.Proofs.Ytaekefedmobfoaa
open Go.RowKit
set_option linter.unusedVariables false
set_option linter.unusedSimpArgs false
theorem hiAg_take (s p : Int) (l : List HR) (k : Nat) (x : HR) (h : l[k]? = some x) : (hiAg s p l).take (k + 1) = (hiAg s p l).take k ++ [if x.s = s then x.ag p else x] := by
  rw [List.take_add_one]
  unfold hiAg
  rw [List.getElem?_map, h]
  rfl

set_option maxRecDepth 100000 in
set_option maxHeartbeats 6400000 in
theorem refHAgainNone {w : World} {vl : Value} {l : List HR} {n : Nat} (M T G s p : Int) (hL : OwnE w 0 125 4 vl n (hiV l)) (hn : n ≤ 65535) (hf : hiFind s l = none) :
    Calls Try.prog 62 #[.agg #[.int .i64 M, .int .i64 T, .int .i64 G, vl], .int .i64 s, .int .i64 p] w fun e w' => e = .returned (.tuple #[.agg #[.int .i64 M, .int .i64 T, .int .i64 G, vl], hiZ.val, .bool false]) ∧ Below w.heap.size w w' := by
  obtain ⟨a, cap, rfl, hnc, hcm, hln, hrd⟩ := hL.rdr
  unfold maxLen at hcm
  have hX0 := ((at4_new 49 w w.heap.size (.int .i64 M) (.int .i64 T) (.int .i64 G) (.slice a n cap) rfl).alloc (.cells #[.int .i64 0, .int .i64 0, .int .i64 0, .slice none 0 0] 49)).alloc (.cells #[.int .i64 0, .int .i64 0, .int .i64 0, .string (⟨#[]⟩ : ByteArray)] 125)
  have hX1 := (at4_new 49 (w.alloc (.cells #[.int .i64 M, .int .i64 T, .int .i64 G, .slice a n cap] 49)) (w.heap.size + 1) (.int .i64 0) (.int .i64 0) (.int .i64 0) (.slice none 0 0) (by simp)).alloc (.cells #[.int .i64 0, .int .i64 0, .int .i64 0, .string (⟨#[]⟩ : ByteArray)] 125)
  have hX2 := at4_new 125 ((w.alloc (.cells #[.int .i64 M, .int .i64 T, .int .i64 G, .slice a n cap] 49)).alloc (.cells #[.int .i64 0, .int .i64 0, .int .i64 0, .slice none 0 0] 49)) (w.heap.size + 1 + 1) (.int .i64 0) (.int .i64 0) (.int .i64 0) (.string (⟨#[]⟩ : ByteArray)) (by simp)
  have hb : Below w.heap.size w (((w.alloc (.cells #[.int .i64 M, .int .i64 T, .int .i64 G, .slice a n cap] 49)).alloc (.cells #[.int .i64 0, .int .i64 0, .int .i64 0, .slice none 0 0] 49)).alloc (.cells #[.int .i64 0, .int .i64 0, .int .i64 0, .string (⟨#[]⟩ : ByteArray)] 125)) := (((Below.refl _ _).alloc (Nat.le_refl _) _).alloc (by simp) _).alloc (by simp; omega) _
  go_enter Try.func62, Try.ntmps62
  go_upto_region 1 with fail
  generalize (((w.alloc (.cells #[.int .i64 M, .int .i64 T, .int .i64 G, .slice a n cap] 49)).alloc (.cells #[.int .i64 0, .int .i64 0, .int .i64 0, .slice none 0 0] 49)).alloc (.cells #[.int .i64 0, .int .i64 0, .int .i64 0, .string (⟨#[]⟩ : ByteArray)] 125)) = w2 at *
  have hL2 := hL.later hb
  generalize hg2 : w.heap.size + 1 + 1 = g2 at *
  generalize hg1 : w.heap.size + 1 = g1 at *
  generalize hg0 : w.heap.size = g0 at *
  have HG := Lib.hid hg0
  have hle1 : g0 ≤ g1 := by omega
  have hle2 : g0 ≤ g2 := by omega
  have hne01 : g0 ≠ g1 := by omega
  have hne10 : g1 ≠ g0 := by omega
  have hne02 : g0 ≠ g2 := by omega
  have hne20 : g2 ≠ g0 := by omega
  have hne12 : g1 ≠ g2 := by omega
  have hne21 : g2 ≠ g1 := by omega
  have hsz2 : g0 ≤ w2.heap.size := Nat.le_of_lt hX0.lt
  have HGet := Lib.hid (refHGet_any M T G s hL2 (by omega))
  rw [hf] at HGet
  clear hg0 hg1 hg2 hL hrd hf
  obtain ⟨_, _, _, _⟩ := hX0.cells
  go_wp2_with fail
  refine HGet.out.mono ?_
  rintro e w3 ⟨rfl, hk3⟩
  have hX0_3 := hX0.later hk3
  have hX1_3 := hX1.later hk3
  have hX2_3 := hX2.later hk3
  have hL3 := hL2.later hk3
  have hb3 := hb.trans (hk3.mono hsz2)
  clear hX0 hX1 hX2 hL2 hb hk3 HGet hsz2
  simp only [Option.getD, Option.isSome, HR.val, hiZ]
  have hX3 := at4_new 125 w3 w3.heap.size (.int .i64 0) (.int .i64 0) (.int .i64 0) (.string (⟨#[]⟩ : ByteArray)) rfl
  have hal : Below w3.heap.size w3 (w3.alloc (.cells #[.int .i64 0, .int .i64 0, .int .i64 0, .string (⟨#[]⟩ : ByteArray)] 125)) := (Below.refl _ _).alloc (Nat.le_refl _) _
  have hX0_4 := hX0_3.later hal
  have hX1_4 := hX1_3.later hal
  have hX2_4 := hX2_3.later hal
  have hL4 := hL3.later hal
  have hl0 := hX0_3.lt
  have hl1 := hX1_3.lt
  have hl2 := hX2_3.lt
  have hb4 := hb3.trans (hal.mono (Nat.le_of_lt hl0))
  go_upto_region 2 with fail
  generalize (w3.alloc (.cells #[.int .i64 0, .int .i64 0, .int .i64 0, .string (⟨#[]⟩ : ByteArray)] 125)) = w4 at hX3 hX0_4 hX1_4 hX2_4 hL4 hb4 ⊢
  generalize w3.heap.size = g3 at hX3 hl0 hl1 hl2 ⊢
  have hne30 : g3 ≠ g0 := by omega
  have hne31 : g3 ≠ g1 := by omega
  have hne32 : g3 ≠ g2 := by omega
  have hle3 : g0 ≤ g3 := by omega
  clear hal hX0_3 hX1_3 hX2_3 hL3 hb3
  obtain ⟨_, _, _, _⟩ := hX0_4.cells
  obtain ⟨_, _, _, _⟩ := hX1_4.cells
  obtain ⟨_, _, _, _⟩ := hX1_4.frees
  obtain ⟨_, _, _, _⟩ := hX2_4.cells
  obtain ⟨_, _, _, _⟩ := hX2_4.frees
  obtain ⟨_, _, _, _⟩ := hX3.cells
  obtain ⟨_, _, _, _⟩ := hX3.frees
  have hoA := put4_only w4 g1 (.int .i64 M) (.int .i64 T) (.int .i64 G) (.slice a n cap)
  have hZ1 := at4_put hX1_4 (.int .i64 M) (.int .i64 T) (.int .i64 G) (.slice a n cap)
  have hX2_5 := hX2_4.only hne21 hoA
  have hb5 := hb4.trans (hoA.below hle1)
  generalize hw5 : ((((w4.setCell ⟨g1, 0, none⟩ (.int .i64 M)).setCell ⟨g1, 1, none⟩ (.int .i64 T)).setCell ⟨g1, 2, none⟩ (.int .i64 G)).setCell ⟨g1, 3, none⟩ (.slice a n cap)) = w5 at hZ1 hX2_5 hb5
  have hoB := put4_only w5 g2 (.int .i64 0) (.int .i64 0) (.int .i64 0) (.string (⟨#[]⟩ : ByteArray))
  have hZ2 := at4_put hX2_5 (.int .i64 0) (.int .i64 0) (.int .i64 0) (.string (⟨#[]⟩ : ByteArray))
  have hZ1' := hZ1.only hne12 hoB
  have HBZ := Lib.hid (hb5.trans (hoB.below hle2))
  have HW5 := Lib.hid hw5
  obtain ⟨d0, d1, d2, d3⟩ := hZ1'.cells
  obtain ⟨f0, f1, f2, f3⟩ := hZ2.cells
  obtain ⟨_, _, _, _⟩ := hX2_5.cells
  obtain ⟨_, _, _, _⟩ := hX2_5.frees
  clear hw5 hZ1 hX2_5 hb5 hoA hoB hZ2 hZ1' hb4
  go_upto_region 3 with fail
  go_wp2_with fail
  rw [HW5.out]
  generalize ((((w5.setCell ⟨g2, 0, none⟩ (.int .i64 0)).setCell ⟨g2, 1, none⟩ (.int .i64 0)).setCell ⟨g2, 2, none⟩ (.int .i64 0)).setCell ⟨g2, 3, none⟩ (.string (⟨#[]⟩ : ByteArray))) = w6 at HBZ d0 d1 d2 d3 f0 f1 f2 f3 ⊢
  refine bodyPost_ret (v := .tuple #[.agg #[.int .i64 M, .int .i64 T, .int .i64 G, .slice a n cap], .agg #[.int .i64 0, .int .i64 0, .int .i64 0, .string (⟨#[]⟩ : ByteArray)], .bool false]) (by simp [results, Try.results62, go_sem, d0, d1, d2, d3, f0, f1, f2, f3]) rfl ⟨rfl, by rw [HG.out]; exact HBZ.out⟩

set_option maxRecDepth 100000 in
set_option maxHeartbeats 6400000 in
theorem refHAgainMuch {w : World} {vl : Value} {l : List HR} {n : Nat} (M T G s p : Int) (hL : OwnE w 0 125 4 vl n (hiV l)) (hn : n ≤ 65535) (r : HR) (hf : hiFind s l = some r) (ht : T ≤ r.t) :
    Calls Try.prog 62 #[.agg #[.int .i64 M, .int .i64 T, .int .i64 G, vl], .int .i64 s, .int .i64 p] w fun e w' => e = .returned (.tuple #[.agg #[.int .i64 M, .int .i64 T, .int .i64 G, vl], hiZ.val, .bool false]) ∧ Below w.heap.size w w' := by
  obtain ⟨a, cap, rfl, hnc, hcm, hln, hrd⟩ := hL.rdr
  unfold maxLen at hcm
  have hX0 := ((at4_new 49 w w.heap.size (.int .i64 M) (.int .i64 T) (.int .i64 G) (.slice a n cap) rfl).alloc (.cells #[.int .i64 0, .int .i64 0, .int .i64 0, .slice none 0 0] 49)).alloc (.cells #[.int .i64 0, .int .i64 0, .int .i64 0, .string (⟨#[]⟩ : ByteArray)] 125)
  have hX1 := (at4_new 49 (w.alloc (.cells #[.int .i64 M, .int .i64 T, .int .i64 G, .slice a n cap] 49)) (w.heap.size + 1) (.int .i64 0) (.int .i64 0) (.int .i64 0) (.slice none 0 0) (by simp)).alloc (.cells #[.int .i64 0, .int .i64 0, .int .i64 0, .string (⟨#[]⟩ : ByteArray)] 125)
  have hX2 := at4_new 125 ((w.alloc (.cells #[.int .i64 M, .int .i64 T, .int .i64 G, .slice a n cap] 49)).alloc (.cells #[.int .i64 0, .int .i64 0, .int .i64 0, .slice none 0 0] 49)) (w.heap.size + 1 + 1) (.int .i64 0) (.int .i64 0) (.int .i64 0) (.string (⟨#[]⟩ : ByteArray)) (by simp)
  have hb : Below w.heap.size w (((w.alloc (.cells #[.int .i64 M, .int .i64 T, .int .i64 G, .slice a n cap] 49)).alloc (.cells #[.int .i64 0, .int .i64 0, .int .i64 0, .slice none 0 0] 49)).alloc (.cells #[.int .i64 0, .int .i64 0, .int .i64 0, .string (⟨#[]⟩ : ByteArray)] 125)) := (((Below.refl _ _).alloc (Nat.le_refl _) _).alloc (by simp) _).alloc (by simp; omega) _
  go_enter Try.func62, Try.ntmps62
  go_upto_region 1 with fail
  generalize (((w.alloc (.cells #[.int .i64 M, .int .i64 T, .int .i64 G, .slice a n cap] 49)).alloc (.cells #[.int .i64 0, .int .i64 0, .int .i64 0, .slice none 0 0] 49)).alloc (.cells #[.int .i64 0, .int .i64 0, .int .i64 0, .string (⟨#[]⟩ : ByteArray)] 125)) = w2 at *
  have hL2 := hL.later hb
  generalize hg2 : w.heap.size + 1 + 1 = g2 at *
  generalize hg1 : w.heap.size + 1 = g1 at *
  generalize hg0 : w.heap.size = g0 at *
  have HG := Lib.hid hg0
  have hle1 : g0 ≤ g1 := by omega
  have hle2 : g0 ≤ g2 := by omega
  have hne01 : g0 ≠ g1 := by omega
  have hne10 : g1 ≠ g0 := by omega
  have hne02 : g0 ≠ g2 := by omega
  have hne20 : g2 ≠ g0 := by omega
  have hne12 : g1 ≠ g2 := by omega
  have hne21 : g2 ≠ g1 := by omega
  have hsz2 : g0 ≤ w2.heap.size := Nat.le_of_lt hX0.lt
  have HGet := Lib.hid (refHGet_any M T G s hL2 (by omega))
  rw [hf] at HGet
  clear hg0 hg1 hg2 hL hrd hf
  obtain ⟨_, _, _, _⟩ := hX0.cells
  go_wp2_with fail
  refine HGet.out.mono ?_
  rintro e w3 ⟨rfl, hk3⟩
  have hX0_3 := hX0.later hk3
  have hX1_3 := hX1.later hk3
  have hX2_3 := hX2.later hk3
  have hL3 := hL2.later hk3
  have hb3 := hb.trans (hk3.mono hsz2)
  clear hX0 hX1 hX2 hL2 hb hk3 HGet hsz2
  simp only [Option.getD, Option.isSome, HR.val, hiZ]
  have hX3 := at4_new 125 w3 w3.heap.size (.int .i64 r.s) (.int .i64 r.t) (.int .i64 r.p) (.string r.d) rfl
  have hal : Below w3.heap.size w3 (w3.alloc (.cells #[.int .i64 r.s, .int .i64 r.t, .int .i64 r.p, .string r.d] 125)) := (Below.refl _ _).alloc (Nat.le_refl _) _
  have hX0_4 := hX0_3.later hal
  have hX1_4 := hX1_3.later hal
  have hX2_4 := hX2_3.later hal
  have hL4 := hL3.later hal
  have hl0 := hX0_3.lt
  have hl1 := hX1_3.lt
  have hl2 := hX2_3.lt
  have hb4 := hb3.trans (hal.mono (Nat.le_of_lt hl0))
  go_upto_region 2 with fail
  generalize (w3.alloc (.cells #[.int .i64 r.s, .int .i64 r.t, .int .i64 r.p, .string r.d] 125)) = w4 at hX3 hX0_4 hX1_4 hX2_4 hL4 hb4 ⊢
  generalize w3.heap.size = g3 at hX3 hl0 hl1 hl2 ⊢
  have hne30 : g3 ≠ g0 := by omega
  have hne31 : g3 ≠ g1 := by omega
  have hne32 : g3 ≠ g2 := by omega
  have hle3 : g0 ≤ g3 := by omega
  clear hal hX0_3 hX1_3 hX2_3 hL3 hb3
  obtain ⟨_, _, _, _⟩ := hX0_4.cells
  obtain ⟨_, _, _, _⟩ := hX1_4.cells
  obtain ⟨_, _, _, _⟩ := hX1_4.frees
  obtain ⟨_, _, _, _⟩ := hX2_4.cells
  obtain ⟨_, _, _, _⟩ := hX2_4.frees
  obtain ⟨_, _, _, _⟩ := hX3.cells
  obtain ⟨_, _, _, _⟩ := hX3.frees
  have hdd : decide (T ≤ r.t) = true := decide_eq_true ht
  have hoA := put4_only w4 g1 (.int .i64 M) (.int .i64 T) (.int .i64 G) (.slice a n cap)
  have hZ1 := at4_put hX1_4 (.int .i64 M) (.int .i64 T) (.int .i64 G) (.slice a n cap)
  have hX2_5 := hX2_4.only hne21 hoA
  have hb5 := hb4.trans (hoA.below hle1)
  generalize hw5 : ((((w4.setCell ⟨g1, 0, none⟩ (.int .i64 M)).setCell ⟨g1, 1, none⟩ (.int .i64 T)).setCell ⟨g1, 2, none⟩ (.int .i64 G)).setCell ⟨g1, 3, none⟩ (.slice a n cap)) = w5 at hZ1 hX2_5 hb5
  have hoB := put4_only w5 g2 (.int .i64 0) (.int .i64 0) (.int .i64 0) (.string (⟨#[]⟩ : ByteArray))
  have hZ2 := at4_put hX2_5 (.int .i64 0) (.int .i64 0) (.int .i64 0) (.string (⟨#[]⟩ : ByteArray))
  have hZ1' := hZ1.only hne12 hoB
  have HBZ := Lib.hid (hb5.trans (hoB.below hle2))
  have HW5 := Lib.hid hw5
  obtain ⟨d0, d1, d2, d3⟩ := hZ1'.cells
  obtain ⟨f0, f1, f2, f3⟩ := hZ2.cells
  obtain ⟨_, _, _, _⟩ := hX2_5.cells
  obtain ⟨_, _, _, _⟩ := hX2_5.frees
  clear hw5 hZ1 hX2_5 hb5 hoA hoB hZ2 hZ1' hb4
  go_upto_region 3 with fail
  go_wp2_with fail
  rw [HW5.out]
  generalize ((((w5.setCell ⟨g2, 0, none⟩ (.int .i64 0)).setCell ⟨g2, 1, none⟩ (.int .i64 0)).setCell ⟨g2, 2, none⟩ (.int .i64 0)).setCell ⟨g2, 3, none⟩ (.string (⟨#[]⟩ : ByteArray))) = w6 at HBZ d0 d1 d2 d3 f0 f1 f2 f3 ⊢
  refine bodyPost_ret (v := .tuple #[.agg #[.int .i64 M, .int .i64 T, .int .i64 G, .slice a n cap], .agg #[.int .i64 0, .int .i64 0, .int .i64 0, .string (⟨#[]⟩ : ByteArray)], .bool false]) (by simp [results, Try.results62, go_sem, d0, d1, d2, d3, f0, f1, f2, f3]) rfl ⟨rfl, by rw [HG.out]; exact HBZ.out⟩

set_option maxRecDepth 100000 in
set_option maxHeartbeats 6400000 in
theorem refHAgainYes {w : World} {vl : Value} {l : List HR} {n : Nat} (M T G s p : Int) (hL : OwnE w 0 125 4 vl n (hiV l)) (hn : n ≤ 65535) (r : HR) (hf : hiFind s l = some r) (ht : r.t < T) (h0 : 0 ≤ r.t) (hT : T ≤ 100) (hG : 0 ≤ G ∧ G ≤ 1000000) (hup : HiUp l) :
    Calls Try.prog 62 #[.agg #[.int .i64 M, .int .i64 T, .int .i64 G, vl], .int .i64 s, .int .i64 p] w fun e w' => ∃ v', e = .returned (.tuple #[.agg #[.int .i64 M, .int .i64 T, .int .i64 (G + 1), v'], (r.ag p).val, .bool true]) ∧ OwnE w' 0 125 4 v' n (hiV (hiAg s p l)) ∧ Below w.heap.size w w' := by
  obtain ⟨a, cap, rfl, hnc, hcm, hln, hrd⟩ := hL.rdr
  unfold maxLen at hcm
  have hX0 := ((at4_new 49 w w.heap.size (.int .i64 M) (.int .i64 T) (.int .i64 G) (.slice a n cap) rfl).alloc (.cells #[.int .i64 0, .int .i64 0, .int .i64 0, .slice none 0 0] 49)).alloc (.cells #[.int .i64 0, .int .i64 0, .int .i64 0, .string (⟨#[]⟩ : ByteArray)] 125)
  have hX1 := (at4_new 49 (w.alloc (.cells #[.int .i64 M, .int .i64 T, .int .i64 G, .slice a n cap] 49)) (w.heap.size + 1) (.int .i64 0) (.int .i64 0) (.int .i64 0) (.slice none 0 0) (by simp)).alloc (.cells #[.int .i64 0, .int .i64 0, .int .i64 0, .string (⟨#[]⟩ : ByteArray)] 125)
  have hX2 := at4_new 125 ((w.alloc (.cells #[.int .i64 M, .int .i64 T, .int .i64 G, .slice a n cap] 49)).alloc (.cells #[.int .i64 0, .int .i64 0, .int .i64 0, .slice none 0 0] 49)) (w.heap.size + 1 + 1) (.int .i64 0) (.int .i64 0) (.int .i64 0) (.string (⟨#[]⟩ : ByteArray)) (by simp)
  have hb : Below w.heap.size w (((w.alloc (.cells #[.int .i64 M, .int .i64 T, .int .i64 G, .slice a n cap] 49)).alloc (.cells #[.int .i64 0, .int .i64 0, .int .i64 0, .slice none 0 0] 49)).alloc (.cells #[.int .i64 0, .int .i64 0, .int .i64 0, .string (⟨#[]⟩ : ByteArray)] 125)) := (((Below.refl _ _).alloc (Nat.le_refl _) _).alloc (by simp) _).alloc (by simp; omega) _
  go_enter Try.func62, Try.ntmps62
  go_upto_region 1 with fail
  generalize (((w.alloc (.cells #[.int .i64 M, .int .i64 T, .int .i64 G, .slice a n cap] 49)).alloc (.cells #[.int .i64 0, .int .i64 0, .int .i64 0, .slice none 0 0] 49)).alloc (.cells #[.int .i64 0, .int .i64 0, .int .i64 0, .string (⟨#[]⟩ : ByteArray)] 125)) = w2 at *
  have hL2 := hL.later hb
  generalize hg2 : w.heap.size + 1 + 1 = g2 at *
  generalize hg1 : w.heap.size + 1 = g1 at *
  generalize hg0 : w.heap.size = g0 at *
  have HG := Lib.hid hg0
  have hle1 : g0 ≤ g1 := by omega
  have hle2 : g0 ≤ g2 := by omega
  have hne01 : g0 ≠ g1 := by omega
  have hne10 : g1 ≠ g0 := by omega
  have hne02 : g0 ≠ g2 := by omega
  have hne20 : g2 ≠ g0 := by omega
  have hne12 : g1 ≠ g2 := by omega
  have hne21 : g2 ≠ g1 := by omega
  have hsz2 : g0 ≤ w2.heap.size := Nat.le_of_lt hX0.lt
  have HGet := Lib.hid (refHGet_any M T G s hL2 (by omega))
  have hff := hf
  rw [hf] at HGet
  clear hg0 hg1 hg2 hL hrd hf
  obtain ⟨_, _, _, _⟩ := hX0.cells
  go_wp2_with fail
  refine HGet.out.mono ?_
  rintro e w3 ⟨rfl, hk3⟩
  have hX0_3 := hX0.later hk3
  have hX1_3 := hX1.later hk3
  have hX2_3 := hX2.later hk3
  have hL3 := hL2.later hk3
  have hb3 := hb.trans (hk3.mono hsz2)
  clear hX0 hX1 hX2 hL2 hb hk3 HGet hsz2
  simp only [Option.getD, Option.isSome, HR.val, hiZ]
  have hX3 := at4_new 125 w3 w3.heap.size (.int .i64 r.s) (.int .i64 r.t) (.int .i64 r.p) (.string r.d) rfl
  have hal : Below w3.heap.size w3 (w3.alloc (.cells #[.int .i64 r.s, .int .i64 r.t, .int .i64 r.p, .string r.d] 125)) := (Below.refl _ _).alloc (Nat.le_refl _) _
  have hX0_4 := hX0_3.later hal
  have hX1_4 := hX1_3.later hal
  have hX2_4 := hX2_3.later hal
  have hL4 := hL3.later hal
  have hl0 := hX0_3.lt
  have hl1 := hX1_3.lt
  have hl2 := hX2_3.lt
  have hb4 := hb3.trans (hal.mono (Nat.le_of_lt hl0))
  have hg3v : (Value.slice a n cap).ownBlock ≠ some w3.heap.size := fun e => by have := (hL3.1.lt _ e).2; omega
  go_upto_region 2 with fail
  generalize (w3.alloc (.cells #[.int .i64 r.s, .int .i64 r.t, .int .i64 r.p, .string r.d] 125)) = w4 at hX3 hX0_4 hX1_4 hX2_4 hL4 hb4 ⊢
  generalize w3.heap.size = g3 at hX3 hl0 hl1 hl2 hg3v ⊢
  have hne30 : g3 ≠ g0 := by omega
  have hne31 : g3 ≠ g1 := by omega
  have hne32 : g3 ≠ g2 := by omega
  have hle3 : g0 ≤ g3 := by omega
  clear hal hX0_3 hX1_3 hX2_3 hL3 hb3
  obtain ⟨_, _, _, _⟩ := hX0_4.cells
  obtain ⟨_, _, _, _⟩ := hX1_4.cells
  obtain ⟨_, _, _, _⟩ := hX1_4.frees
  obtain ⟨_, _, _, _⟩ := hX2_4.cells
  obtain ⟨_, _, _, _⟩ := hX2_4.frees
  obtain ⟨_, _, _, _⟩ := hX3.cells
  obtain ⟨_, _, _, _⟩ := hX3.frees
  have hdd : decide (T ≤ r.t) = false := decide_eq_false (by omega)
  have hw1 : IntKind.i64.wrap (r.t + 1) = r.t + 1 := IntWalk.i64_in _ ⟨by omega, by omega⟩
  have hw2 : IntKind.i64.wrap (G + 1) = G + 1 := IntWalk.i64_in _ ⟨by omega, by omega⟩
  obtain ⟨i0, hi, hz0, hz1, hz2⟩ := info_parts info_rrec
  have HUP := Lib.hid hup
  have HLN := Lib.hid hln
  have HF := Lib.hid hff
  have HAT := Lib.hid (hiAg_take s p l)
  have HVs := Lib.hid hiV_snoc
  have HAL := Lib.hid (hiAg_len s p l)
  clear hup hln hff
  go_upto_region 6 with fail
  have hoA := ((Only.refl g3 w4).setCell 1 (.int .i64 (r.t + 1))).setCell 2 (.int .i64 p)
  have hR5 : At4 125 ((w4.setCell ⟨g3, 1, none⟩ (.int .i64 (r.t + 1))).setCell ⟨g3, 2, none⟩ (.int .i64 p)) g3 (.int .i64 r.s) (.int .i64 (r.t + 1)) (.int .i64 p) (.string r.d) := by
    have h1 : At4 125 (w4.setCell ⟨g3, 1, none⟩ (.int .i64 (r.t + 1))) g3 (.int .i64 r.s) (.int .i64 (r.t + 1)) (.int .i64 r.p) (.string r.d) := block_setCell hX3
    exact block_setCell h1
  have hX0_5 := hX0_4.only (fun e => hne30 e.symm) hoA
  have hX1_5 := hX1_4.only (fun e => hne31 e.symm) hoA
  have hX2_5 := hX2_4.only (fun e => hne32 e.symm) hoA
  have hb5 := hb4.trans (hoA.below hle3)
  have hL5 : OwnE ((w4.setCell ⟨g3, 1, none⟩ (.int .i64 (r.t + 1))).setCell ⟨g3, 2, none⟩ (.int .i64 p)) 0 125 4 (.slice a n cap) n (hiV l) := hL4.keep (by rw [hoA.size]; exact Nat.le_refl _) (fun q cs hq hc => hoA.block q (fun e => hg3v (by rw [← e]; exact hq)))
  generalize ((w4.setCell ⟨g3, 1, none⟩ (.int .i64 (r.t + 1))).setCell ⟨g3, 2, none⟩ (.int .i64 p)) = w5 at hR5 hX0_5 hX1_5 hX2_5 hb5 hL5 ⊢
  clear hoA hX0_4 hX1_4 hX2_4 hb4 hL4 hX3 hg3v
  obtain ⟨_, _, ee, _, _, _, hrd5⟩ := hL5.rdr
  cases ee
  have HR := Lib.hid (fun W (h : Below w5.heap.size w5 W) => hrd5.later h)
  have HX0 := Lib.hid (fun W (h : Below w5.heap.size w5 W) => hX0_5.later h)
  have HX1 := Lib.hid (fun W (h : Below w5.heap.size w5 W) => hX1_5.later h)
  have HX2 := Lib.hid (fun W (h : Below w5.heap.size w5 W) => hX2_5.later h)
  have HX3 := Lib.hid (fun W (h : Below w5.heap.size w5 W) => hR5.later h)
  have hsz5 : g0 ≤ w5.heap.size := Nat.le_of_lt hX0_5.lt
  have hg35 : g3 < w5.heap.size := hR5.lt
  have hal : Below w5.heap.size w5 (w5.alloc (.cells #[] 125)) := (Below.refl _ _).alloc (Nat.le_refl _) _
  have hE : OwnE (w5.alloc (.cells #[] 125)) w5.heap.size 125 4 (.slice (some ⟨w5.heap.size, 0, none⟩) 0 0) 0 [] := ownE_of (World.ownsRow_lit w5 #[] 0 (Nat.le_refl _) (Nat.zero_le _) rfl)
  obtain ⟨_, _, _, _⟩ := (hX0_5.later hal).cells
  clear hrd5 hL5 hX0_5 hX1_5 hX2_5 hR5
  go_upto_region 7 with fail
  generalize (w5.alloc (.cells #[] 125)) = w6 at *
  go_wp2_with fail
  go_loopw [11, 41] (fun vk i wr => ∃ k : Nat, k ≤ n ∧ i = .int .i64 k ∧ OwnE wr w5.heap.size 125 4 vk k (hiV ((hiAg s p l).take k)) ∧ Below w5.heap.size w5 wr) (fun _ i _ => n - (intOf i).toNat)
  case atStart => exact ⟨0, Nat.zero_le _, rfl, hE, hal⟩
  case round =>
    obtain ⟨k, hk, rfl, hO, hbw⟩ := hrel
    clear hE hal
    by_cases hlt : k < n
    · obtain ⟨x, hx⟩ : ∃ x, l[k]? = some x := ⟨_, List.getElem?_eq_getElem (by have := HLN.out; omega)⟩
      obtain ⟨g, off, rfl, c0, c1, c2, c3⟩ := HR.out wr hbw k x hx
      have HXX := Lib.hid hx
      have HK1 := Lib.hid (HAT.out k x hx)
      have hX := at4_new 125 wr wr.heap.size (.int .i64 x.s) (.int .i64 x.t) (.int .i64 x.p) (.string x.d) rfl
      have hb6 := hbw.alloc hbw.size (.cells #[.int .i64 x.s, .int .i64 x.t, .int .i64 x.p, .string x.d] 125)
      have hO6 := hO.alloc (.cells #[.int .i64 x.s, .int .i64 x.t, .int .i64 x.p, .string x.d] 125)
      have hlw : w5.heap.size ≤ wr.heap.size := hbw.size
      have hOlt : ∀ q, u11.ownBlock = some q → q < wr.heap.size := fun q hq => (hO.1.lt q hq).2
      clear hx
      go_upto_region 10 with fail
      generalize wr.alloc (.cells #[.int .i64 x.s, .int .i64 x.t, .int .i64 x.p, .string x.d] 125) = w7 at hX hb6 hO6 ⊢
      generalize wr.heap.size = gx at hX hlw hOlt ⊢
      clear hbw hO c0 c1 c2 c3
      obtain ⟨_, _, _, _⟩ := hX.cells
      obtain ⟨_, _, _, _⟩ := hX.frees
      have hX3w := HX3.out w7 hb6
      obtain ⟨_, _, _, _⟩ := hX3w.cells
      by_cases he : x.s = s
      · have hxr : x = r := by
          have h1 := hiFind_at HUP.out k x HXX.out
          rw [he, HF.out] at h1
          exact (Option.some.inj h1).symm
        have hd : (x.s == s) = true := by simpa using he
        have HK2 : Hid ((hiAg s p l).take (k + 1) = (hiAg s p l).take k ++ [r.ag p]) := Lib.hid (by rw [HK1.out, if_pos he, hxr])
        have HKV : Hid (hiV ((hiAg s p l).take (k + 1)) = hiV ((hiAg s p l).take k) ++ (r.ag p).cs) := Lib.hid (by rw [HK2.out, HVs.out])
        clear HK1 he hxr
        generalize hiV ((hiAg s p l).take k) = xs at *
        go_upto_region 12 with fail
        have ho8 := put4_only w7 gx (.int .i64 r.s) (.int .i64 (r.t + 1)) (.int .i64 p) (.string r.d)
        have hX8 := at4_put hX (.int .i64 r.s) (.int .i64 (r.t + 1)) (.int .i64 p) (.string r.d)
        have hb8 := hb6.trans (ho8.below hlw)
        have hO8 := hO6.keep (W' := ((((w7.setCell ⟨gx, 0, none⟩ (.int .i64 r.s)).setCell ⟨gx, 1, none⟩ (.int .i64 (r.t + 1))).setCell ⟨gx, 2, none⟩ (.int .i64 p)).setCell ⟨gx, 3, none⟩ (.string r.d))) (by rw [ho8.size]; exact Nat.le_refl _) (fun q cs hq hc => ho8.block q (fun e => by have := hOlt q hq; omega))
        generalize ((((w7.setCell ⟨gx, 0, none⟩ (.int .i64 r.s)).setCell ⟨gx, 1, none⟩ (.int .i64 (r.t + 1))).setCell ⟨gx, 2, none⟩ (.int .i64 p)).setCell ⟨gx, 3, none⟩ (.string r.d)) = w8 at hX8 hb8 hO8 ⊢
        clear ho8 hX hb6 hO6 hX3w
        obtain ⟨_, _, _, _⟩ := hX8.cells
        go_wp2_with (at_builtin; refine append_recE (W := w5) rfl (.tmp 50) (.tmp 52) 47 rfl 125 i0 (.agg #[.int .i64 0, .int .i64 0, .int .i64 0, .string ByteArray.empty]) 4 40 Try.underlying47 hi hz0 hz1 hz2 rfl (by decide) w5.heap.size _ k xs rfl hO8 #[.int .i64 r.s, .int .i64 (r.t + 1), .int .i64 p, .string r.d] rfl rfl ?d0 ?d1 ?d2 hb8.size w5.heap.size (Nat.le_refl _) hb8 ?_)
        case d0 => exact ⟨rfl, rfl, rfl, rfl⟩
        case d1 => unfold maxLen; omega
        case d2 => omega
        intro v9 w9 hO9 hb9 _ _
        have hO10 : OwnE w9 w5.heap.size 125 4 v9 (k + 1) (hiV ((hiAg s p l).take (k + 1))) := by
          rw [HKV.out]
          exact hO9
        clear hO9 hO8 hb8 hX8
        go_wp2_with fail
        go_roundw
        case rel => exact ⟨k + 1, by omega, by go_num, hO10, hb9⟩
        case measure => simp [intOf]; omega
      · have hd : (x.s == s) = false := by simpa using he
        have HK2 : Hid ((hiAg s p l).take (k + 1) = (hiAg s p l).take k ++ [x]) := Lib.hid (by rw [HK1.out, if_neg he])
        have HKV : Hid (hiV ((hiAg s p l).take (k + 1)) = hiV ((hiAg s p l).take k) ++ x.cs) := Lib.hid (by rw [HK2.out, HVs.out])
        clear HK1 he
        generalize hiV ((hiAg s p l).take k) = xs at *
        go_wp2_with (at_builtin; refine append_recE (W := w5) rfl (.tmp 50) (.tmp 52) 47 rfl 125 i0 (.agg #[.int .i64 0, .int .i64 0, .int .i64 0, .string ByteArray.empty]) 4 40 Try.underlying47 hi hz0 hz1 hz2 rfl (by decide) w5.heap.size _ k xs rfl hO6 #[.int .i64 x.s, .int .i64 x.t, .int .i64 x.p, .string x.d] rfl rfl ?d0 ?d1 ?d2 hb6.size w5.heap.size (Nat.le_refl _) hb6 ?_)
        case d0 => exact ⟨rfl, rfl, rfl, rfl⟩
        case d1 => unfold maxLen; omega
        case d2 => omega
        intro v9 w9 hO9 hb9 _ _
        have hO10 : OwnE w9 w5.heap.size 125 4 v9 (k + 1) (hiV ((hiAg s p l).take (k + 1))) := by
          rw [HKV.out]
          exact hO9
        clear hO9 hO6 hb6 hX
        go_wp2_with fail
        go_roundw
        case rel => exact ⟨k + 1, by omega, by go_num, hO10, hb9⟩
        case measure => simp [intOf]; omega
    · obtain rfl : k = n := by omega
      have hlk : (hiAg s p l).take k = hiAg s p l := List.take_of_length_le (by rw [HAL.out, HLN.out]; exact Nat.le_refl _)
      rw [hlk] at hO
      have hOb := hO.base (Nat.zero_le _)
      have hg3lt : g3 < w5.heap.size := hg35
      have hOw : ∀ q, u11.ownBlock = some q → w5.heap.size ≤ q := fun q hq => (hO.1.lt q hq).1
      have hX0w := HX0.out wr hbw
      have hX1w := HX1.out wr hbw
      have hX2w := HX2.out wr hbw
      have hX3w := HX3.out wr hbw
      have hbz := hb5.trans (hbw.mono hsz5)
      obtain ⟨a7, c7, rfl⟩ := hOb.form4
      obtain ⟨_, _, _, _⟩ := hX0w.cells
      obtain ⟨_, _, _, _⟩ := hX0w.frees
      clear hO hbw hlk HX0 HX1 HX2 HX3 HR hb5
      have ho8 := ((Only.refl g0 wr).setCell 3 (.slice a7 k c7)).setCell 2 (.int .i64 (G + 1))
      have hX0_8 : At4 49 ((wr.setCell ⟨g0, 3, none⟩ (.slice a7 k c7)).setCell ⟨g0, 2, none⟩ (.int .i64 (G + 1))) g0 (.int .i64 M) (.int .i64 T) (.int .i64 (G + 1)) (.slice a7 k c7) := at4h_set2 (at4h_set3 hX0w (.slice a7 k c7)) (.int .i64 (G + 1))
      have hX1_8 := hX1w.only hne10 ho8
      have hX2_8 := hX2w.only hne20 ho8
      have hX3_8 := hX3w.only hne30 ho8
      have hO8 := hOb.onlyH hX0w ho8 (by decide)
      have hb8 := hbz.trans (ho8.below (Nat.le_refl _))
      go_upto_region 16 with fail
      generalize ((wr.setCell ⟨g0, 3, none⟩ (.slice a7 k c7)).setCell ⟨g0, 2, none⟩ (.int .i64 (G + 1))) = w8 at hX0_8 hX1_8 hX2_8 hX3_8 hO8 hb8 ⊢
      clear ho8 hX0w hX1w hX2w hX3w hOb hbz
      obtain ⟨_, _, _, _⟩ := hX0_8.cells
      obtain ⟨_, _, _, _⟩ := hX3_8.cells
      obtain ⟨_, _, _, _⟩ := hX1_8.frees
      obtain ⟨_, _, _, _⟩ := hX1_8.cells
      obtain ⟨_, _, _, _⟩ := hX2_8.frees
      obtain ⟨_, _, _, _⟩ := hX2_8.cells
      first | go_region_law (fail) | fail "region"
      all_goals
        have hoA := put4_only w8 g1 (.int .i64 M) (.int .i64 T) (.int .i64 (G + 1)) (.slice a7 k c7)
        have hZ1 := at4_put hX1_8 (.int .i64 M) (.int .i64 T) (.int .i64 (G + 1)) (.slice a7 k c7)
        have hX2_9 := hX2_8.only hne21 hoA
        have hb9 := hb8.trans (hoA.below hle1)
        have hO9 := hO8.onlyH hX1_8 hoA (by decide)
        clear hoA
        generalize ((((w8.setCell ⟨g1, 0, none⟩ (.int .i64 M)).setCell ⟨g1, 1, none⟩ (.int .i64 T)).setCell ⟨g1, 2, none⟩ (.int .i64 (G + 1))).setCell ⟨g1, 3, none⟩ (.slice a7 k c7)) = w9 at hZ1 hX2_9 hb9 hO9 ⊢
        have hoB := put4_only w9 g2 (.int .i64 r.s) (.int .i64 (r.t + 1)) (.int .i64 p) (.string r.d)
        have hZ2 := at4_put hX2_9 (.int .i64 r.s) (.int .i64 (r.t + 1)) (.int .i64 p) (.string r.d)
        have hZ1' := hZ1.only hne12 hoB
        have HBZ := Lib.hid (hb9.trans (hoB.below hle2)).drew
        have hav : ∀ q, (Value.slice a7 k c7).ownBlock = some q → g3 < q := fun q hq => by have h2 := hOw q hq; omega
        have HOZ := Lib.hid (hO9.keep (by rw [hoB.size]; exact Nat.le_refl _) (fun q cs hq hc => hoB.block q (fun e => by have := hav q hq; omega))).drew
        obtain ⟨d0, d1, d2, d3⟩ := hZ1'.cells
        obtain ⟨f0, f1, f2, f3⟩ := hZ2.cells
        clear hZ1 hX2_9 hb9 hO9 hoB hZ2 hZ1'
        generalize ((((w9.setCell ⟨g2, 0, none⟩ (.int .i64 r.s)).setCell ⟨g2, 1, none⟩ (.int .i64 (r.t + 1))).setCell ⟨g2, 2, none⟩ (.int .i64 p)).setCell ⟨g2, 3, none⟩ (.string r.d)) = w10 at HBZ HOZ d0 d1 d2 d3 f0 f1 f2 f3 ⊢
        go_wp2_with fail
        go_simp
        refine bodyPost_ret (v := .tuple #[.agg #[.int .i64 M, .int .i64 T, .int .i64 (G + 1), .slice a7 k c7], .agg #[.int .i64 r.s, .int .i64 (r.t + 1), .int .i64 p, .string r.d], .bool true]) (by simp [results, Try.results62, go_sem, d0, d1, d2, d3, f0, f1, f2, f3]) rfl ⟨_, rfl, HOZ.out, by rw [HG.out]; exact HBZ.out⟩

end Go.Proofs.Ytaekefedmobfoaa
