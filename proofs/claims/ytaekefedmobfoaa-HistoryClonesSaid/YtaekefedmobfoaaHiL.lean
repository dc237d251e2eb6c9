/- history: the document's Put, Forget. -/
import Derived.Test.YtaekefedmobfoaaHiK
namespace Go.Proofs.Ytaekefedmobfoaa
open Go.RowKit
set_option linter.unusedVariables false
set_option linter.unusedSimpArgs false
theorem info_rrec : (Try.prog.info? 125).map (fun i => (i.zero, i.size, i.bytes)) = some (some (.agg #[.int .i64 0, .int .i64 0, .int .i64 0, .string ByteArray.empty]), 4, 40) := by kernel_rfl
theorem hiFg_take (s : Int) (l : List HR) (k : Nat) (r : HR) (h : l[k]? = some r) : hiFg s (l.take (k + 1)) = hiFg s (l.take k) ++ if s < r.s then [r] else [] := by
  unfold hiFg
  rw [List.take_add_one, h, List.filter_append]
  by_cases hc : s < r.s
  · simp [hc]
  · simp [hc]
theorem hiFg_le (s : Int) (l : List HR) : (hiFg s l).length ≤ l.length := List.length_filter_le _ _
set_option maxRecDepth 100000 in
set_option maxHeartbeats 3200000 in
theorem refHForget_any {w : World} {vl : Value} {l : List HR} {n : Nat} (M T G s : Int) (hL : OwnE w 0 125 4 vl n (hiV l)) (hn : n ≤ 1073741824) :
    Calls Try.prog 64 #[.agg #[.int .i64 M, .int .i64 T, .int .i64 G, vl], .int .i64 s] w fun e w' => ∃ v', e = .returned (.tuple #[.agg #[.int .i64 M, .int .i64 T, .int .i64 G, v'], .int .i64 ((n : Int) - (hiFg s l).length)]) ∧ OwnE w' 0 125 4 v' (hiFg s l).length (hiV (hiFg s l)) ∧ Below w.heap.size w w' := by
  obtain ⟨a, cap, rfl, hnc, hcm, hln, hrd⟩ := hL.rdr
  obtain ⟨i0, hi, hz0, hz1, hz2⟩ := info_parts info_rrec
  unfold maxLen at hcm
  have hX0 := (at4_new 49 w w.heap.size (.int .i64 M) (.int .i64 T) (.int .i64 G) (.slice a n cap) rfl).alloc (.cells #[.int .i64 0, .int .i64 0, .int .i64 0, .slice none 0 0] 49)
  have hX1 := at4_new 49 (w.alloc (.cells #[.int .i64 M, .int .i64 T, .int .i64 G, .slice a n cap] 49)) (w.heap.size + 1) (.int .i64 0) (.int .i64 0) (.int .i64 0) (.slice none 0 0) (by simp)
  have hb : Below w.heap.size w ((w.alloc (.cells #[.int .i64 M, .int .i64 T, .int .i64 G, .slice a n cap] 49)).alloc (.cells #[.int .i64 0, .int .i64 0, .int .i64 0, .slice none 0 0] 49)) := ((Below.refl _ _).alloc (Nat.le_refl _) _).alloc (by simp) _
  go_enter Try.func64, Try.ntmps64
  go_upto_region 1 with fail
  generalize ((w.alloc (.cells #[.int .i64 M, .int .i64 T, .int .i64 G, .slice a n cap] 49)).alloc (.cells #[.int .i64 0, .int .i64 0, .int .i64 0, .slice none 0 0] 49)) = w2 at *
  have hrd2 := hrd.later hb
  generalize hg1 : w.heap.size + 1 = g1 at *
  generalize hg0 : w.heap.size = g0 at *
  have HG := Lib.hid hg0
  have hle1 : g0 ≤ g1 := by omega
  have hne01 : g0 ≠ g1 := by omega
  have hne10 : g1 ≠ g0 := by omega
  have hsz2 : g0 ≤ w2.heap.size := Nat.le_of_lt hX0.lt
  have hlt12 : g1 < w2.heap.size := hX1.lt
  clear hg0 hg1 hL hrd
  obtain ⟨_, _, _, _⟩ := hX0.cells
  obtain ⟨_, _, _, _⟩ := hX0.frees
  have hal : Below w2.heap.size w2 (w2.alloc (.cells #[] 125)) := (Below.refl _ _).alloc (Nat.le_refl _) _
  have hE : OwnE (w2.alloc (.cells #[] 125)) w2.heap.size 125 4 (.slice (some ⟨w2.heap.size, 0, none⟩) 0 0) 0 [] := ownE_of (World.ownsRow_lit w2 #[] 0 (Nat.le_refl _) (Nat.zero_le _) rfl)
  have HR := Lib.hid (fun W (h : Below w2.heap.size w2 W) => hrd2.later h)
  have HX0 := Lib.hid (fun W (h : Below w2.heap.size w2 W) => hX0.later h)
  have HX1 := Lib.hid (fun W (h : Below w2.heap.size w2 W) => hX1.later h)
  have HFt := Lib.hid (hiFg_take s l)
  have HFl := Lib.hid (hiFg_le s)
  have HLN := Lib.hid hln
  have HVs := Lib.hid hiV_snoc
  obtain ⟨x0, x1, x2, x3⟩ := (hX0.later hal).cells
  go_upto_region 2 with fail
  generalize hw3 : w2.alloc (.cells #[] 125) = w3 at *
  clear hX0 hX1 hrd2 hln hw3
  go_wp2_with fail
  go_loopw [6, 14] (fun vk i wr => ∃ k : Nat, k ≤ n ∧ i = .int .i64 k ∧ OwnE wr w2.heap.size 125 4 vk (hiFg s (l.take k)).length (hiV (hiFg s (l.take k))) ∧ Below w2.heap.size w2 wr) (fun _ i _ => n - (intOf i).toNat)
  case atStart => exact ⟨0, Nat.zero_le _, rfl, hE, hal⟩
  case round =>
    obtain ⟨k, hk, rfl, hO, hbw⟩ := hrel
    clear hE hal x0 x1 x2 x3
    by_cases hlt : k < n
    · obtain ⟨r, hr⟩ : ∃ r, l[k]? = some r := ⟨_, List.getElem?_eq_getElem (by have := HLN.out; omega)⟩
      obtain ⟨g, off, rfl, c0, c1, c2, c3⟩ := HR.out wr hbw k r hr
      have HK1 := Lib.hid (HFt.out k r hr)
      have hkl : (hiFg s (l.take k)).length ≤ k := Nat.le_trans (HFl.out _) (by rw [List.length_take]; omega)
      have hX := at4_new 125 wr wr.heap.size (.int .i64 r.s) (.int .i64 r.t) (.int .i64 r.p) (.string r.d) rfl
      have hb3 := hbw.alloc hbw.size (.cells #[.int .i64 r.s, .int .i64 r.t, .int .i64 r.p, .string r.d] 125)
      have hO3 := hO.alloc (.cells #[.int .i64 r.s, .int .i64 r.t, .int .i64 r.p, .string r.d] 125)
      clear hr
      go_upto_region 5 with fail
      generalize wr.alloc (.cells #[.int .i64 r.s, .int .i64 r.t, .int .i64 r.p, .string r.d] 125) = w4 at hX hb3 hO3 ⊢
      generalize wr.heap.size = g4 at hX ⊢
      clear hbw hO c0 c1 c2 c3
      obtain ⟨_, _, _, _⟩ := hX.cells
      by_cases he : s < r.s
      · have HK2 : Hid (hiFg s (l.take (k + 1)) = hiFg s (l.take k) ++ [r]) := Lib.hid (by rw [HK1.out, if_pos he])
        have HKV : Hid (hiV (hiFg s (l.take (k + 1))) = hiV (hiFg s (l.take k)) ++ r.cs) := Lib.hid (by rw [HK2.out, HVs.out])
        have HKN : Hid ((hiFg s (l.take (k + 1))).length = (hiFg s (l.take k)).length + 1) := Lib.hid (by rw [HK2.out, List.length_append]; rfl)
        clear HK1
        generalize hiV (hiFg s (l.take k)) = xs at *
        generalize (hiFg s (l.take k)).length = nk at *
        go_wp2_with (at_builtin; refine append_recE (W := w2) rfl (.tmp 22) (.tmp 24) 47 rfl 125 i0 (.agg #[.int .i64 0, .int .i64 0, .int .i64 0, .string ByteArray.empty]) 4 40 Try.underlying47 hi hz0 hz1 hz2 rfl (by decide) w2.heap.size _ nk xs rfl hO3 #[.int .i64 r.s, .int .i64 r.t, .int .i64 r.p, .string r.d] rfl rfl ?d0 ?d1 ?d2 hb3.size w2.heap.size (Nat.le_refl _) hb3 ?_)
        case d0 => exact ⟨rfl, rfl, rfl, rfl⟩
        case d1 => unfold maxLen; omega
        case d2 => omega
        intro v5 w5 hO5 hb5 _ _
        have hO6 : OwnE w5 w2.heap.size 125 4 v5 (hiFg s (l.take (k + 1))).length (hiV (hiFg s (l.take (k + 1)))) := by
          rw [HKV.out, HKN.out]
          exact hO5
        clear hO5 hO3 hb3 hX
        go_wp2_with fail
        go_roundw
        case rel => exact ⟨k + 1, by omega, by go_num, hO6, hb5⟩
        case measure => simp [intOf]; omega
      · have HK2 : Hid (hiFg s (l.take (k + 1)) = hiFg s (l.take k)) := Lib.hid (by rw [HK1.out, if_neg he, List.append_nil])
        clear HK1
        go_wp2_with fail
        go_roundw
        case rel => exact ⟨k + 1, by omega, by go_num, by rw [HK2.out]; exact hO3, hb3⟩
        case measure => simp [intOf]; omega
    · obtain rfl : k = n := by omega
      have hlk : l.take k = l := List.take_of_length_le (by have := HLN.out; omega)
      rw [hlk] at hO
      have hle := HFl.out l
      rw [HLN.out] at hle
      have hX0w := HX0.out wr hbw
      have hX1w := HX1.out wr hbw
      have hO2 := hO.base (Nat.zero_le _)
      have hbz := hb.trans (hbw.mono hsz2)
      obtain ⟨a5, c5, rfl⟩ := hO2.form4
      obtain ⟨_, _, _, _⟩ := hX0w.cells
      obtain ⟨_, _, _, _⟩ := hX0w.frees
      clear hO hbw hb hlk HFt HFl HR HX0 HX1
      generalize hfl : hiFg s l = fl at hO2 hle ⊢
      have HFL := Lib.hid hfl
      clear hfl
      have hwr : IntKind.i64.wrap ((k : Int) - fl.length) = (k : Int) - fl.length := IntWalk.i64_in _ ⟨by omega, by omega⟩
      go_upto_region 10 with fail
      have ho6 := (Only.refl g0 wr).setCell 3 (.slice a5 fl.length c5)
      have hX0_6 := at4h_set3 hX0w (.slice a5 fl.length c5)
      have hX1_6 := hX1w.only hne10 ho6
      have hO6 : OwnE (wr.setCell ⟨g0, 3, none⟩ (.slice a5 fl.length c5)) 0 125 4 (.slice a5 fl.length c5) fl.length (hiV fl) := hO2.keep (by rw [ho6.size]; exact Nat.le_refl _) (fun q cs hq hc => ho6.block q (fun e => by
        subst e
        have h0 := hX0w
        unfold At4 at h0
        rw [h0] at hc
        simp only [Option.some.injEq, Obj.cells.injEq] at hc
        exact absurd hc.2.1 (by decide)))
      have hb6 := hbz.trans (ho6.below (Nat.le_refl _))
      generalize wr.setCell ⟨g0, 3, none⟩ (.slice a5 fl.length c5) = w6 at hX0_6 hX1_6 hO6 hb6 ⊢
      clear ho6 hX0w hX1w hO2 hbz
      obtain ⟨_, _, _, _⟩ := hX0_6.cells
      obtain ⟨_, _, _, _⟩ := hX1_6.cells
      obtain ⟨_, _, _, _⟩ := hX1_6.frees
      have ho7 := put4_only w6 g1 (.int .i64 M) (.int .i64 T) (.int .i64 G) (.slice a5 fl.length c5)
      have hO7 := hO6.keep (W' := ((((w6.setCell ⟨g1, 0, none⟩ (.int .i64 M)).setCell ⟨g1, 1, none⟩ (.int .i64 T)).setCell ⟨g1, 2, none⟩ (.int .i64 G)).setCell ⟨g1, 3, none⟩ (.slice a5 fl.length c5))) (by rw [ho7.size]; exact Nat.le_refl _) (fun q cs hq hc => ho7.block q (fun e => by
        subst e
        have h0 := hX1_6
        unfold At4 at h0
        rw [h0] at hc
        simp only [Option.some.injEq, Obj.cells.injEq] at hc
        exact absurd hc.2.1 (by decide)))
      have hZ := at4_put hX1_6 (.int .i64 M) (.int .i64 T) (.int .i64 G) (.slice a5 fl.length c5)
      have hbz := hb6.trans (ho7.below hle1)
      have HO7 := Lib.hid hO7
      obtain ⟨d0, d1, d2, d3⟩ := hZ.cells
      clear hO7 hO6
      have HBZ := Lib.hid hbz
      have HLE : Hid ((.returned (.tuple #[.agg #[.int .i64 M, .int .i64 T, .int .i64 G, .slice a5 fl.length c5], .int .i64 ((k : Int) - fl.length)]) : Ending) = .returned (.tuple #[.agg #[.int .i64 M, .int .i64 T, .int .i64 G, .slice a5 fl.length c5], .int .i64 ((k : Int) - (hiFg s l).length)])) := Lib.hid (by rw [HFL.out])
      clear hbz hZ hb6
      go_wp2_with fail
      generalize ((((w6.setCell ⟨g1, 0, none⟩ (.int .i64 M)).setCell ⟨g1, 1, none⟩ (.int .i64 T)).setCell ⟨g1, 2, none⟩ (.int .i64 G)).setCell ⟨g1, 3, none⟩ (.slice a5 fl.length c5)) = w7 at HO7 HBZ d0 d1 d2 d3 ⊢
      refine bodyPost_ret (v := .tuple #[.agg #[.int .i64 M, .int .i64 T, .int .i64 G, .slice a5 fl.length c5], .int .i64 ((k : Int) - fl.length)]) (by simp [results, Try.results64, go_sem, d0, d1, d2, d3]) rfl ⟨.slice a5 fl.length c5, HLE.out, by rw [HFL.out]; exact HO7.out, by rw [HG.out]; exact HBZ.out⟩
end Go.Proofs.Ytaekefedmobfoaa
