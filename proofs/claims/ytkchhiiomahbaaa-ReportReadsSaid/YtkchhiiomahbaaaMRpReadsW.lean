/- ReportReads: the walk. -/
import Derived.Test.YtkchhiiomahbaaaMRpBackW
import Derived.Test.YtkchhiiomahbaaaMRpLF
import Derived.Test.YtkchhiiomahbaaaMRpLT
import Derived.Deep.QuietTactic
import Derived.BigQuiet
namespace Go.Proofs.Ytkchhiiomahbaaa
open Go.RowKit
set_option linter.unusedVariables false
set_option maxRecDepth 100000 in
set_option maxHeartbeats 1600000 in
theorem rpOf_5 (count K : Int) (s : ByteArray) (w : World) (h0 : K ≠ 200) (h1 : K ≠ 201) :
    Calls Try.prog 17 #[.agg #[.int .i64 count, .int .i64 K, .string s]] w (RpOfd ⟨count, K, s⟩ w) := by
  have HEV := Lib.hid (ofE_5 count K s h0 h1)
  have n0 : (K != 200) = true := by simp [h0]
  have n1 : (K != 201) = true := by simp [h1]
  have hX1 : PcAt (w.alloc (.cells #[.int .i64 count, .int .i64 K, .string s] 35)) w.heap.size ⟨count, K, s⟩ := heap_alloc_new w _
  have hX2 := hX1.alloc (.cells #[.int .u32 0, .bool false, .int .i64 0, .int .u32 0, .int .u32 0, .int .u32 0, .slice none 0 0] 31)
  have hY2 := at7_new 31 (w.alloc (.cells #[.int .i64 count, .int .i64 K, .string s] 35)) (.int .u32 0) (.bool false) (.int .i64 0) (.int .u32 0) (.int .u32 0) (.int .u32 0) (.slice none 0 0)
  have hb2 : Below w.heap.size w ((w.alloc (.cells #[.int .i64 count, .int .i64 K, .string s] 35)).alloc (.cells #[.int .u32 0, .bool false, .int .i64 0, .int .u32 0, .int .u32 0, .int .u32 0, .slice none 0 0] 31)) := by go_grown
  have hne : (w.alloc (.cells #[.int .i64 count, .int .i64 K, .string s] 35)).heap.size = w.heap.size + 1 := by simp
  rw [hne] at hY2
  clear hX1 hne
  go_enter Try.func17, Try.ntmps17
  go_upto_region 1 with fail
  generalize (w.alloc (.cells #[.int .i64 count, .int .i64 K, .string s] 35)).alloc (.cells #[.int .u32 0, .bool false, .int .i64 0, .int .u32 0, .int .u32 0, .int .u32 0, .slice none 0 0] 31) = w2 at hX2 hY2 hb2 ⊢
  have hgB : w.heap.size ≤ w.heap.size + 1 := by omega
  generalize hg2 : w.heap.size + 1 = g2 at hY2 hgB ⊢
  generalize hg : w.heap.size = g at hX2 hb2 hgB ⊢
  have HG := Lib.hid hg
  clear hg2 hg
  obtain ⟨x0, x1, x2, _⟩ := pcAt_S hX2
  obtain ⟨y0, y1, y2, y3, y4, y5, y6⟩ := hY2.cells
  obtain ⟨f0, f1, f2, f3, f4, f5, f6⟩ := hY2.frees
  have hZz := at7_store (.int .u32 0) (.bool false) (.int .i64 0) (.int .u32 0) (.int .u32 0) (.int .u32 0) (.slice none 0 0) hY2
  have hoz := store7_only w2 g2 (.int .u32 0) (.bool false) (.int .i64 0) (.int .u32 0) (.int .u32 0) (.int .u32 0) (.slice none 0 0)
  have hbz := hb2.trans (hoz.below hgB)
  go_wp2_with fail
  generalize ((((((w2.setCell ⟨g2, 0, none⟩ (.int .u32 0)).setCell ⟨g2, 1, none⟩ (.bool false)).setCell ⟨g2, 2, none⟩ (.int .i64 0)).setCell ⟨g2, 3, none⟩ (.int .u32 0)).setCell ⟨g2, 4, none⟩ (.int .u32 0)).setCell ⟨g2, 5, none⟩ (.int .u32 0)).setCell ⟨g2, 6, none⟩ (.slice none 0 0) = wz at hZz hoz hbz ⊢
  obtain ⟨d0, d1, d2, d3, d4, d5, d6⟩ := hZz.cells
  clear f0 f1 f2 f3 f4 f5 f6 y0 y1 y2 y3 y4 y5 y6
  refine bodyPost_ret (v := .tuple #[.agg #[.int .u32 0, .bool false, .int .i64 0, .int .u32 0, .int .u32 0, .int .u32 0, .slice none 0 0], .int .i64 5]) (by simp [results, Try.results17, go_sem, d0, d1, d2, d3, d4, d5, d6]) rfl (rpOfd_err _ _ _ 5 HEV.out (by decide) (by rw [HG.out]; exact hbz))
set_option maxRecDepth 100000 in
set_option maxHeartbeats 1600000 in
theorem refOf_5 (count K : Int) (s : ByteArray) (w : World) (h0 : K ≠ 200) (h1 : K ≠ 201) :
    Calls Try.prog 18 #[.agg #[.int .i64 count, .int .i64 K, .string s]] w (RefOfd ⟨count, K, s⟩ w) := by
  have HEV := Lib.hid (ofE_5 count K s h0 h1)
  have n0 : (K != 200) = true := by simp [h0]
  have n1 : (K != 201) = true := by simp [h1]
  have hX1 : BoxAt (w.alloc (.cells #[.int .i64 count, .int .i64 K, .string s] 23)) w.heap.size ⟨count, K, s⟩ := heap_alloc_new w _
  have hX2 := hX1.alloc (.cells #[.int .i64 0, .bool false, .int .i64 0, .int .i64 0, .int .i64 0, .int .i64 0, .slice none 0 0] 38)
  have hY2 := at7_new 38 (w.alloc (.cells #[.int .i64 count, .int .i64 K, .string s] 23)) (.int .i64 0) (.bool false) (.int .i64 0) (.int .i64 0) (.int .i64 0) (.int .i64 0) (.slice none 0 0)
  have hb2 : Below w.heap.size w ((w.alloc (.cells #[.int .i64 count, .int .i64 K, .string s] 23)).alloc (.cells #[.int .i64 0, .bool false, .int .i64 0, .int .i64 0, .int .i64 0, .int .i64 0, .slice none 0 0] 38)) := by go_grown
  have hne : (w.alloc (.cells #[.int .i64 count, .int .i64 K, .string s] 23)).heap.size = w.heap.size + 1 := by simp
  rw [hne] at hY2
  clear hX1 hne
  go_enter Try.func18, Try.ntmps18
  go_upto_region 1 with fail
  generalize (w.alloc (.cells #[.int .i64 count, .int .i64 K, .string s] 23)).alloc (.cells #[.int .i64 0, .bool false, .int .i64 0, .int .i64 0, .int .i64 0, .int .i64 0, .slice none 0 0] 38) = w2 at hX2 hY2 hb2 ⊢
  have hgB : w.heap.size ≤ w.heap.size + 1 := by omega
  generalize hg2 : w.heap.size + 1 = g2 at hY2 hgB ⊢
  generalize hg : w.heap.size = g at hX2 hb2 hgB ⊢
  have HG := Lib.hid hg
  clear hg2 hg
  obtain ⟨x0, x1, x2, _⟩ := boxAt_S hX2
  obtain ⟨y0, y1, y2, y3, y4, y5, y6⟩ := hY2.cells
  obtain ⟨f0, f1, f2, f3, f4, f5, f6⟩ := hY2.frees
  have hZz := at7_store (.int .i64 0) (.bool false) (.int .i64 0) (.int .i64 0) (.int .i64 0) (.int .i64 0) (.slice none 0 0) hY2
  have hoz := store7_only w2 g2 (.int .i64 0) (.bool false) (.int .i64 0) (.int .i64 0) (.int .i64 0) (.int .i64 0) (.slice none 0 0)
  have hbz := hb2.trans (hoz.below hgB)
  go_wp2_with fail
  generalize ((((((w2.setCell ⟨g2, 0, none⟩ (.int .i64 0)).setCell ⟨g2, 1, none⟩ (.bool false)).setCell ⟨g2, 2, none⟩ (.int .i64 0)).setCell ⟨g2, 3, none⟩ (.int .i64 0)).setCell ⟨g2, 4, none⟩ (.int .i64 0)).setCell ⟨g2, 5, none⟩ (.int .i64 0)).setCell ⟨g2, 6, none⟩ (.slice none 0 0) = wz at hZz hoz hbz ⊢
  obtain ⟨d0, d1, d2, d3, d4, d5, d6⟩ := hZz.cells
  clear f0 f1 f2 f3 f4 f5 f6 y0 y1 y2 y3 y4 y5 y6
  refine bodyPost_ret (v := .tuple #[.agg #[.int .i64 0, .bool false, .int .i64 0, .int .i64 0, .int .i64 0, .int .i64 0, .slice none 0 0], .int .i64 5]) (by simp [results, Try.results18, go_sem, d0, d1, d2, d3, d4, d5, d6]) rfl (refOfd_err _ _ _ 5 HEV.out (by decide) (by rw [HG.out]; exact hbz))
theorem rpOf_all (p : PC) (w : World) (hs : p.body.size ≤ 300) (hc1 : -9223372036854775808 ≤ p.count) (hc2 : p.count ≤ 9223372036854775807) :
    Calls Try.prog 17 #[.agg #[.int .i64 p.count, .int .i64 p.kind, .string p.body]] w (RpOfd p w) := by
  by_cases h0 : p.kind = 200
  · exact rpOf_any p w (by omega) hc1 hc2 (.inl h0)
  · by_cases h1 : p.kind = 201
    · exact rpOf_any p w (by omega) hc1 hc2 (.inr h1)
    · obtain ⟨c, k, s⟩ := p; exact rpOf_5 c k s w h0 h1
theorem refOf_all (p : PC) (w : World) (hs : p.body.size ≤ 300) (hc1 : -9223372036854775808 ≤ p.count) (hc2 : p.count ≤ 9223372036854775807) :
    Calls Try.prog 18 #[.agg #[.int .i64 p.count, .int .i64 p.kind, .string p.body]] w (RefOfd p w) := by
  obtain ⟨c, k, s⟩ := p
  simp only at *
  by_cases h0 : k = 200
  · subst h0; exact refOf_t c s w hs hc1 hc2
  · by_cases h1 : k = 201
    · subst h1; exact refOf_f c s w hs hc1 hc2
    · exact refOf_5 c k s w h0 h1
theorem ofP_len (p : PC) (hs : p.body.size ≤ 300) : (ofP p).blocks.length ≤ 31 := by
  unfold ofP
  split
  · rename_i h
    exact (ofE_zero p h).2.2.2.1
  · decide
theorem ofE_vals (p : PC) : ofE p = 0 ∨ ofE p = 1 ∨ ofE p = 2 ∨ ofE p = 5 ∨ ofE p = 6 := by
  unfold ofE
  split
  · simp
  · split
    · simp
    · split
      · simp
      · split <;> simp
namespace reportReads
set_option maxRecDepth 100000 in
set_option maxHeartbeats 4000000 in
theorem walk (count kind : Int) (s0 : ByteArray) (w0 : (Lit.int .i64 count).wf = true) (w1 : (Lit.int .i64 kind).wf = true) (w2 : s0.size ≤ maxLen) (w : World) :
    Calls Try.prog 3 #[.agg #[.int .i64 count, .int .i64 kind, .string s0]] w fun e w' => e = .returned (.bool true) ∧ Below w.heap.size w w' := by
  have n1 := (i64_bd w0).1
  have n2 := (i64_bd w0).2
  unfold maxLen at w2
  have HC := Lib.hid (fun W => cut_any s0 300 W (by omega) (by decide))
  have hsz := (cut_size s0 300).1
  obtain ⟨s, hs⟩ : ∃ s, cutB s0 300 = s := ⟨_, rfl⟩
  rw [hs] at HC hsz
  clear hs w0 w1 w2
  have hOf := fun W => rpOf_all ⟨count, kind, s⟩ W hsz n1 n2
  have hRf := fun W => refOf_all ⟨count, kind, s⟩ W hsz n1 n2
  have hln := ofP_len ⟨count, kind, s⟩ hsz
  have hok := ofP_ok ⟨count, kind, s⟩
  have hfo : ofE ⟨count, kind, s⟩ = 0 → 0 ≤ count → rpP (ofP ⟨count, kind, s⟩) = ⟨count, kind, s⟩ := fun h h0 => rp_forth ⟨count, kind, s⟩ h h0
  have hvl := ofE_vals ⟨count, kind, s⟩
  unfold RpOfd at hOf
  unfold RefOfd at hRf
  simp only at hOf hRf
  generalize ofE ⟨count, kind, s⟩ = E at hOf hRf hfo hvl
  generalize ofP ⟨count, kind, s⟩ = q at hOf hRf hfo hln hok
  have HOf := Lib.hid hOf
  have HRf := Lib.hid hRf
  have HOK := Lib.hid hok
  have HFO := Lib.hid hfo
  clear hOf hRf hok hfo n1 n2
  have HTo0 := fun W a c hr => toldRp_any q a c W HOK.out (by omega) hr
  unfold ToldRp at HTo0
  have HTo := Lib.hid HTo0
  have HSm := Lib.hid (fun W a a2 c c2 hr hr2 => sameRp_t q a a2 c c2 W (by omega) hr hr2)
  have HPi := Lib.hid (fun W a c hr => rpPiece_any q a c W hr (by omega))
  obtain ⟨src, isS, clock, time, packets, bytes, l⟩ := q
  simp only at *
  clear HTo0
  have hX1 : BoxAt (w.alloc (.cells #[.int .i64 count, .int .i64 kind, .string s0] 23)) w.heap.size ⟨count, kind, s0⟩ := heap_alloc_new w _
  have hb1 : Below w.heap.size w (w.alloc (.cells #[.int .i64 count, .int .i64 kind, .string s0] 23)) := (Below.refl _ _).alloc (Nat.le_refl _) _
  go_enter Try.func3, Try.ntmps3
  go_upto_region 1 with fail
  generalize w.alloc (.cells #[.int .i64 count, .int .i64 kind, .string s0] 23) = w3 at hX1 hb1 ⊢
  obtain ⟨g, hg⟩ : ∃ g, w.heap.size = g := ⟨_, rfl⟩
  have HG := Lib.hid hg
  rw [hg] at hX1 hb1 ⊢
  clear hg
  go_wp2_with fail
  refine (rpAwake_any _).mono ?_
  rintro e w4 ⟨rfl, hb4⟩
  have hX4 := hX1.later hb4
  have hg3 : g < w3.heap.size := by have : w3.heap[g]? = _ := hX1; exact lt_of_block this
  have hbb4 := hb1.trans (hb4.mono (by omega))
  have hg4 : g < w4.heap.size := by have : w4.heap[g]? = _ := hX4; exact lt_of_block this
  clear hX1 hb1 hb4 hg3
  obtain ⟨x0, x1, x2, _⟩ := boxAt_S hX4
  go_wp2_with fail
  refine (HC.out _).mono ?_
  rintro e w' ⟨rfl, rfl⟩
  have hf2 : w4.frozen? ⟨g, 2, none⟩ = false := by simp [World.frozen?, show w4.heap[g]? = _ from hX4]
  have hX5 : BoxAt (w4.setCell ⟨g, 2, none⟩ (.string s)) g ⟨count, kind, s⟩ := block_setCell (i := 2) (u := .string s) hX4
  have hb5 := hbb4.setCell (p := ⟨g, 2, none⟩) (Nat.le_refl _) (.string s)
  have hg5 : g < (w4.setCell ⟨g, 2, none⟩ (.string s)).heap.size := by simp; omega
  go_upto_region 4 with fail
  generalize w4.setCell ⟨g, 2, none⟩ (.string s) = w5 at hX5 hb5 hg5 ⊢
  clear hX4 hbb4 hg4 hf2 x0 x1 x2
  obtain ⟨x0, x1, x2, _⟩ := boxAt_S hX5
  go_wp2_with fail
  refine (HOf.out _).mono ?_
  rintro e w6 ⟨a6, c6, rfl, hr6, hb6⟩
  have hal : Below w6.heap.size w6 (w6.alloc (.cells #[.int .u32 src, .bool isS, .int .i64 clock, .int .u32 time, .int .u32 packets, .int .u32 bytes, .slice a6 l.length c6] 31)) := (Below.refl _ _).alloc (Nat.le_refl _) _
  have hQ7 := at7_new 31 w6 (.int .u32 src) (.bool isS) (.int .i64 clock) (.int .u32 time) (.int .u32 packets) (.int .u32 bytes) (.slice a6 l.length c6)
  have hX7 := (hX5.later hb6).later hal
  have hr7 := hr6.later hal
  have hg6 : g < w6.heap.size := by have := hb6.size; omega
  have hbb7 := (hb5.trans (hb6.mono (by omega))).trans (hal.mono (by omega))
  clear hX5 hb5 hr6 hb6 hal x0 x1 x2
  go_upto_region 5 with fail
  generalize w6.alloc (.cells #[.int .u32 src, .bool isS, .int .i64 clock, .int .u32 time, .int .u32 packets, .int .u32 bytes, .slice a6 l.length c6] 31) = w7 at hQ7 hX7 hr7 hbb7 ⊢
  generalize w6.heap.size = gq at hQ7 hg6 ⊢
  obtain ⟨x0, x1, x2, _⟩ := boxAt_S hX7
  have hg7 := hQ7.lt
  go_wp2_with fail
  refine (HRf.out _).mono ?_
  rintro e w8 ⟨a8, c8, rfl, hz8, hb8⟩
  have hal : Below w8.heap.size w8 (w8.alloc (.cells #[.int .i64 src, .bool isS, .int .i64 clock, .int .i64 time, .int .i64 packets, .int .i64 bytes, .slice a8 l.length c8] 38)) := (Below.refl _ _).alloc (Nat.le_refl _) _
  have hR9 := at7_new 38 w8 (.int .i64 src) (.bool isS) (.int .i64 clock) (.int .i64 time) (.int .i64 packets) (.int .i64 bytes) (.slice a8 l.length c8)
  have hX9 := (hX7.later hb8).later hal
  have hQ9 := (hQ7.later hb8).later hal
  have hr9 := (hr7.later hb8).later hal
  have hz9 := hz8.later hal
  have hg8 : g < w8.heap.size := by have := hb8.size; omega
  have hbb9 := (hbb7.trans (hb8.mono (by omega))).trans (hal.mono (by omega))
  clear hQ7 hX7 hr7 hbb7 hz8 hb8 hal x0 x1 x2 hg7 HOf HRf HC
  go_upto_region 6 with fail
  generalize w8.alloc (.cells #[.int .i64 src, .bool isS, .int .i64 clock, .int .i64 time, .int .i64 packets, .int .i64 bytes, .slice a8 l.length c8] 38) = w9 at hR9 hX9 hQ9 hr9 hz9 hbb9 ⊢
  generalize w8.heap.size = gx at hR9 hg8 ⊢
  obtain ⟨x0, x1, x2, x3, x4, x5, x6⟩ := hQ9.cells
  obtain ⟨y0, y1, y2, y3, y4, y5, y6⟩ := hR9.cells
  have hg9 : g ≤ w9.heap.size := by have := hR9.lt; omega
  have HZ := Lib.hid (fun W (h : Below w9.heap.size w9 W) => hz9.later h)
  have HR := Lib.hid (fun W (h : Below w9.heap.size w9 W) => hr9.later h)
  clear hz9 hr9
  have hd9 : Below w9.heap.size w9 w9.drew := by go_grown
  go_cut [32] (fun z wx => z = .bool false ∧ Below w9.heap.size w9 wx)
  case first =>
    go_region_law (first | (go_simp; go_at_call 20; refine (HTo.out _ _ _ (HR.out _ hd9)).mono ?_; rintro e w14 ⟨hb14, ta, tc, rfl, hra⟩; have hh14 := hd9.trans hb14; have hR14 := hR9.later hh14; obtain ⟨_, _, _, _, _, _, _⟩ := hR14.cells) | (go_simp; go_at_call 19; refine (HSm.out _ _ _ _ _ hra (HZ.out _ hh14)).mono ?_; rintro e w15 ⟨rfl, hb15⟩; have hh15 := hh14.trans (hb15.mono hh14.size)))
    all_goals
      go_wp2_with fail
      go_meet
      exact ⟨by simp, hh15⟩
  case rest =>
  obtain ⟨rfl, hb10⟩ := hcut
  rename World => w10
  have hX10 := hX9.later hb10
  have hQ10 := hQ9.later hb10
  have hr10 := HR.out _ hb10
  have hbb10 := hbb9.trans (hb10.mono hg9)
  have hg10 : g ≤ w10.heap.size := by have := hb10.size; omega
  clear hX9 hQ9 hR9 hbb9 HZ HR hd9 hb10 hg9 x0 x1 x2 x3 x4 x5 x6 y0 y1 y2 y3 y4 y5 y6 HTo HSm
  obtain ⟨x0, x1, x2, _⟩ := boxAt_S hX10
  obtain ⟨y0, y1, y2, y3, y4, y5, y6⟩ := hQ10.cells
  have hd10 : Below w10.heap.size w10 w10.drew := by go_grown
  rcases hvl with rfl | rfl | rfl | rfl | rfl
  · by_cases hc0 : count < 0
    · go_upto_region 8 with fail
      go_quiet (fail)
      go_wp2
      go_ret
      exact ⟨by simp, by rw [HG.out]; exact below_drewN hbb10 nq⟩
    · by_cases hc1 : 31 < count
      · go_upto_region 8 with fail
        go_quiet (fail)
        go_wp2
        go_ret
        exact ⟨by simp, by rw [HG.out]; exact below_drewN hbb10 nq⟩
      · have hfo := HFO.out rfl (by omega)
        have hP := fun W hr => HPi.out W a6 c6 hr
        rw [hfo] at hP
        simp only at hP
        have HP := Lib.hid hP
        have HRR := Lib.hid (fun W (h : Below w10.heap.size w10 W) => hr10.later h)
        clear hfo hP HPi HFO hr10
        have HX := Lib.hid (fun W (h : Below w10.heap.size w10 W) => boxAt_S (hX10.later h))
        go_upto_region 8 with fail
        go_region_law (first | (go_simp; go_at_call 21; refine (HP.out _ (HRR.out _ hd10)).mono ?_; rintro e w11 ⟨rfl, hb11⟩; have hh11 := hd10.trans hb11; obtain ⟨_, _, _, _⟩ := HX.out _ hh11))
        all_goals
          go_wp2
          go_ret
          exact ⟨by simp, by rw [HG.out]; exact hbb10.trans (hh11.mono hg10)⟩
  all_goals
    go_upto_region 8 with fail
    go_quiet (fail)
    go_wp2
    go_ret
    exact ⟨by simp, by rw [HG.out]; exact below_drewN hbb10 nq⟩
end reportReads
end Go.Proofs.Ytkchhiiomahbaaa

