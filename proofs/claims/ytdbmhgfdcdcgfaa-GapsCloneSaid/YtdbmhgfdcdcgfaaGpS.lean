/- gaps: the document's Came: the first packet; one that came late. -/
import Derived.Test.YtdbmhgfdcdcgfaaGpR
namespace Go.Proofs.Ytdbmhgfdcdcgfaa
open Go.RowKit
set_option linter.unusedVariables false
set_option linter.unusedSimpArgs false
set_option maxRecDepth 100000 in
set_option maxHeartbeats 3200000 in
theorem refGpCameFirst {w : World} {vl : Value} {l : List GW} {n : Nat} (c : GC) (gr gv : Int) (n1 now : Int) (hL : OwnE w 0 65 3 vl n (grV l)) (hn : n ≤ 65535) :
    Calls Try.prog 25 #[grG c vl false gr gv, .int .i64 n1, .int .i64 now] w fun e w' => e = .returned (.tuple #[grG c vl true (gpN n1) gv, .int .i64 0]) ∧ OwnE w' 0 65 3 vl n (grV l) ∧ Below w.heap.size w w' := by
  unfold grG
  obtain ⟨a, cap, rfl, hnc, hcm, hln, hrd⟩ := hL.rdw
  obtain ⟨i0, hi, hz0, hz1, hz2⟩ := info_parts info_want
  unfold maxLen at hcm
  have hX0 := (at8_new 31 w w.heap.size (.int .i64 c.m) (.int .i64 c.t) (.int .i64 c.f) (.int .i64 c.a) (.slice a n cap) (.bool false) (.int .i64 gr) (.int .i64 gv) rfl).later (W' := ((w.alloc (.cells #[.int .i64 c.m, .int .i64 c.t, .int .i64 c.f, .int .i64 c.a, .slice a n cap, .bool false, .int .i64 gr, .int .i64 gv] 31)).alloc (.cells #[.int .i64 0, .int .i64 0, .int .i64 0, .int .i64 0, .slice none 0 0, .bool false, .int .i64 0, .int .i64 0] 31))) ((Below.refl _ _).alloc (Nat.le_refl _) _)
  have hX1 := at8_new 31 (w.alloc (.cells #[.int .i64 c.m, .int .i64 c.t, .int .i64 c.f, .int .i64 c.a, .slice a n cap, .bool false, .int .i64 gr, .int .i64 gv] 31)) (w.heap.size + 1) (.int .i64 0) (.int .i64 0) (.int .i64 0) (.int .i64 0) (.slice none 0 0) (.bool false) (.int .i64 0) (.int .i64 0) (by simp)
  have hb : Below w.heap.size w ((w.alloc (.cells #[.int .i64 c.m, .int .i64 c.t, .int .i64 c.f, .int .i64 c.a, .slice a n cap, .bool false, .int .i64 gr, .int .i64 gv] 31)).alloc (.cells #[.int .i64 0, .int .i64 0, .int .i64 0, .int .i64 0, .slice none 0 0, .bool false, .int .i64 0, .int .i64 0] 31)) := ((Below.refl _ _).alloc (Nat.le_refl _) _).alloc (by simp) _
  go_enter Try.func25, Try.ntmps25
  go_upto_region 1 with fail
  generalize ((w.alloc (.cells #[.int .i64 c.m, .int .i64 c.t, .int .i64 c.f, .int .i64 c.a, .slice a n cap, .bool false, .int .i64 gr, .int .i64 gv] 31)).alloc (.cells #[.int .i64 0, .int .i64 0, .int .i64 0, .int .i64 0, .slice none 0 0, .bool false, .int .i64 0, .int .i64 0] 31)) = w2 at *
  have hL2 := hL.later hb
  have hrd2 := hrd.later hb
  generalize hg1 : w.heap.size + 1 = g1 at *
  generalize hg0 : w.heap.size = g0 at *
  have HG := Lib.hid hg0
  have hle1 : g0 ≤ g1 := by omega
  have hne01 : g0 ≠ g1 := by omega
  have hne10 : g1 ≠ g0 := by omega
  have hsz2 : g0 ≤ w2.heap.size := Nat.le_of_lt hX0.lt
  clear hg0 hg1 hL hrd
  have hN1 := Lib.hid (refGpNear_q n1 (-1099511627776) 1099511627776 w2 (by decide))
  have hN2 := Lib.hid (refGpNear_q now 0 1099511627776 w2 (by decide))
  rw [show gAm (-1099511627776) n1 1099511627776 = gpN n1 from rfl] at hN1
  rw [show gAm 0 now 1099511627776 = gpK now from rfl] at hN2
  have hnb := gpN_bd n1
  have hkb := gpK_bd now
  generalize hnn : gpN n1 = nn at *
  generalize hkk : gpK now = kk at *
  have HNN := Lib.hid hnn
  have HKK := Lib.hid hkk
  clear hnn hkk
  obtain ⟨_, _, _, _, _, _, _, _⟩ := hX0.cells
  obtain ⟨_, _, _, _, _, _, _, _⟩ := hX0.frees
  go_wp2_with fail
  refine hN1.out.mono ?_
  rintro e wn ⟨rfl, hq⟩
  have hq2 := hq.symm
  subst hq2
  go_wp2_with fail
  refine hN2.out.mono ?_
  rintro e wn ⟨rfl, hq⟩
  have hq2 := hq.symm
  subst hq2
  clear hN1 hN2 hq
  go_upto_region 6 with fail
  have ho5 := (Only.refl g0 w2).setCell 5 (.bool true)
  have h5a := at8_set5 hX0 (.bool true)
  have h5b := hX1.only hne10 ho5
  have hL5 := hL2.only8 hX0 ho5 (by decide)
  have hb5 := hb.trans (ho5.below (Nat.le_refl _))
  have ho6 := (Only.refl g0 (w2.setCell ⟨g0, 5, none⟩ (.bool true))).setCell 6 (.int .i64 nn)
  have h6a := at8_set6 h5a (.int .i64 nn)
  have h6b := h5b.only hne10 ho6
  have hL6 := hL5.only8 h5a ho6 (by decide)
  have hb6 := hb5.trans (ho6.below (Nat.le_refl _))
  generalize ((w2.setCell ⟨g0, 5, none⟩ (.bool true)).setCell ⟨g0, 6, none⟩ (.int .i64 nn)) = w6 at h6a h6b hL6 hb6 ⊢
  clear ho5 ho6 h5a h5b hL5 hb5 hX0 hX1 hL2 hb hrd2
  obtain ⟨_, _, _, _, _, _, _, _⟩ := h6a.cells
  obtain ⟨_, _, _, _, _, _, _, _⟩ := h6b.cells
  obtain ⟨_, _, _, _, _, _, _, _⟩ := h6b.frees
  have ho7 := put8_only w6 g1 (.int .i64 c.m) (.int .i64 c.t) (.int .i64 c.f) (.int .i64 c.a) (.slice a n cap) (.bool true) (.int .i64 nn) (.int .i64 gv)
  have HO7 := Lib.hid (hL6.only8 h6b ho7 (by decide))
  have hZ := at8_put8 h6b (.int .i64 c.m) (.int .i64 c.t) (.int .i64 c.f) (.int .i64 c.a) (.slice a n cap) (.bool true) (.int .i64 nn) (.int .i64 gv)
  have HBZ := Lib.hid (hb6.trans (ho7.below hle1))
  obtain ⟨d0, d1, d2, d3, d4, d5, d6, d7⟩ := hZ.cells
  clear hZ ho7
  go_wp2_with fail
  generalize ((((((((w6.setCell ⟨g1, 0, none⟩ (.int .i64 c.m)).setCell ⟨g1, 1, none⟩ (.int .i64 c.t)).setCell ⟨g1, 2, none⟩ (.int .i64 c.f)).setCell ⟨g1, 3, none⟩ (.int .i64 c.a)).setCell ⟨g1, 4, none⟩ (.slice a n cap)).setCell ⟨g1, 5, none⟩ (.bool true)).setCell ⟨g1, 6, none⟩ (.int .i64 nn)).setCell ⟨g1, 7, none⟩ (.int .i64 gv)) = w7 at HO7 HBZ d0 d1 d2 d3 d4 d5 d6 d7 ⊢
  refine bodyPost_ret (v := .tuple #[.agg #[.int .i64 c.m, .int .i64 c.t, .int .i64 c.f, .int .i64 c.a, .slice a n cap, .bool true, .int .i64 nn, .int .i64 gv], .int .i64 0]) (by simp [results, Try.results25, go_sem, d0, d1, d2, d3, d4, d5, d6, d7]) rfl ⟨by first | rfl | (rw [HNN.out]; done), HO7.out, by rw [HG.out]; exact HBZ.out⟩
set_option maxRecDepth 100000 in
set_option maxHeartbeats 3200000 in
theorem refGpCameFound {w : World} {vl : Value} {l : List GW} {n : Nat} (c : GC) (gr gv : Int) (n1 now : Int) (hL : OwnE w 0 65 3 vl n (grV l)) (hn : n ≤ 65535) (hgr : gpN n1 ≤ gr) :
    Calls Try.prog 25 #[grG c vl true gr gv, .int .i64 n1, .int .i64 now] w fun e w' => ∃ v', e = .returned (.tuple #[grG c v' true gr gv, .int .i64 0]) ∧ OwnE w' 0 65 3 v' (grF (fun x => decide (x.n ≠ gpN n1)) l).length (grV (grF (fun x => decide (x.n ≠ gpN n1)) l)) ∧ Below w.heap.size w w' := by
  unfold grG
  obtain ⟨a, cap, rfl, hnc, hcm, hln, hrd⟩ := hL.rdw
  obtain ⟨i0, hi, hz0, hz1, hz2⟩ := info_parts info_want
  unfold maxLen at hcm
  have hX0 := (at8_new 31 w w.heap.size (.int .i64 c.m) (.int .i64 c.t) (.int .i64 c.f) (.int .i64 c.a) (.slice a n cap) (.bool true) (.int .i64 gr) (.int .i64 gv) rfl).later (W' := ((w.alloc (.cells #[.int .i64 c.m, .int .i64 c.t, .int .i64 c.f, .int .i64 c.a, .slice a n cap, .bool true, .int .i64 gr, .int .i64 gv] 31)).alloc (.cells #[.int .i64 0, .int .i64 0, .int .i64 0, .int .i64 0, .slice none 0 0, .bool false, .int .i64 0, .int .i64 0] 31))) ((Below.refl _ _).alloc (Nat.le_refl _) _)
  have hX1 := at8_new 31 (w.alloc (.cells #[.int .i64 c.m, .int .i64 c.t, .int .i64 c.f, .int .i64 c.a, .slice a n cap, .bool true, .int .i64 gr, .int .i64 gv] 31)) (w.heap.size + 1) (.int .i64 0) (.int .i64 0) (.int .i64 0) (.int .i64 0) (.slice none 0 0) (.bool false) (.int .i64 0) (.int .i64 0) (by simp)
  have hb : Below w.heap.size w ((w.alloc (.cells #[.int .i64 c.m, .int .i64 c.t, .int .i64 c.f, .int .i64 c.a, .slice a n cap, .bool true, .int .i64 gr, .int .i64 gv] 31)).alloc (.cells #[.int .i64 0, .int .i64 0, .int .i64 0, .int .i64 0, .slice none 0 0, .bool false, .int .i64 0, .int .i64 0] 31)) := ((Below.refl _ _).alloc (Nat.le_refl _) _).alloc (by simp) _
  go_enter Try.func25, Try.ntmps25
  go_upto_region 1 with fail
  generalize ((w.alloc (.cells #[.int .i64 c.m, .int .i64 c.t, .int .i64 c.f, .int .i64 c.a, .slice a n cap, .bool true, .int .i64 gr, .int .i64 gv] 31)).alloc (.cells #[.int .i64 0, .int .i64 0, .int .i64 0, .int .i64 0, .slice none 0 0, .bool false, .int .i64 0, .int .i64 0] 31)) = w2 at *
  have hL2 := hL.later hb
  have hrd2 := hrd.later hb
  generalize hg1 : w.heap.size + 1 = g1 at *
  generalize hg0 : w.heap.size = g0 at *
  have HG := Lib.hid hg0
  have hle1 : g0 ≤ g1 := by omega
  have hne01 : g0 ≠ g1 := by omega
  have hne10 : g1 ≠ g0 := by omega
  have hsz2 : g0 ≤ w2.heap.size := Nat.le_of_lt hX0.lt
  clear hg0 hg1 hL hrd
  have hN1 := Lib.hid (refGpNear_q n1 (-1099511627776) 1099511627776 w2 (by decide))
  have hN2 := Lib.hid (refGpNear_q now 0 1099511627776 w2 (by decide))
  rw [show gAm (-1099511627776) n1 1099511627776 = gpN n1 from rfl] at hN1
  rw [show gAm 0 now 1099511627776 = gpK now from rfl] at hN2
  have hnb := gpN_bd n1
  have hkb := gpK_bd now
  generalize hnn : gpN n1 = nn at *
  generalize hkk : gpK now = kk at *
  have HNN := Lib.hid hnn
  have HKK := Lib.hid hkk
  clear hnn hkk
  obtain ⟨_, _, _, _, _, _, _, _⟩ := hX0.cells
  obtain ⟨_, _, _, _, _, _, _, _⟩ := hX0.frees
  go_wp2_with fail
  refine hN1.out.mono ?_
  rintro e wn ⟨rfl, hq⟩
  have hq2 := hq.symm
  subst hq2
  go_wp2_with fail
  refine hN2.out.mono ?_
  rintro e wn ⟨rfl, hq⟩
  have hq2 := hq.symm
  subst hq2
  clear hN1 hN2 hq
  obtain ⟨_, _, _, _, _, _, _, _⟩ := hX0.cells
  have hal : Below w2.heap.size w2 (w2.alloc (.cells #[] 65)) := (Below.refl _ _).alloc (Nat.le_refl _) _
  have hE : OwnE (w2.alloc (.cells #[] 65)) w2.heap.size 65 3 (.slice (some ⟨w2.heap.size, 0, none⟩) 0 0) 0 [] := ownE_of (World.ownsRow_lit w2 #[] 0 (Nat.le_refl _) (Nat.zero_le _) rfl)
  have HR := Lib.hid (fun W (h : Below w2.heap.size w2 W) => hrd2.later h)
  have HX0 := Lib.hid (fun W (h : Below w2.heap.size w2 W) => hX0.later h)
  have HX1 := Lib.hid (fun W (h : Below w2.heap.size w2 W) => hX1.later h)
  have HFt := Lib.hid (grF_take (fun x => decide (x.n ≠ nn)) l)
  have HFl := Lib.hid (grF_le (fun x => decide (x.n ≠ nn)))
  have HLN := Lib.hid hln
  have HVs := Lib.hid grV_snoc
  obtain ⟨_, _, _, _, _, _, _, _⟩ := (hX0.later hal).cells
  go_upto_region 8 with fail
  generalize hw3 : w2.alloc (.cells #[] 65) = w3 at *
  clear hX0 hX1 hrd2 hln hw3 hL2
  go_wp2_with fail
  go_loopw [8, 35] (fun vk i wr => ∃ k : Nat, k ≤ n ∧ i = .int .i64 k ∧ OwnE wr w2.heap.size 65 3 vk (grF (fun x => decide (x.n ≠ nn)) (l.take k)).length (grV (grF (fun x => decide (x.n ≠ nn)) (l.take k))) ∧ Below w2.heap.size w2 wr) (fun _ i _ => n - (intOf i).toNat)
  case atStart => exact ⟨0, Nat.zero_le _, rfl, hE, hal⟩
  case round =>
    obtain ⟨k, hk, rfl, hO, hbw⟩ := hrel
    clear hE hal
    by_cases hlt : k < n
    · obtain ⟨r, hr⟩ : ∃ r, l[k]? = some r := ⟨_, List.getElem?_eq_getElem (by have := HLN.out; omega)⟩
      obtain ⟨g, off, rfl, c0, c1, c2⟩ := HR.out wr hbw k r hr
      have HK1 := Lib.hid (HFt.out k r hr)
      have hkl : (grF (fun x => decide (x.n ≠ nn)) (l.take k)).length ≤ k := Nat.le_trans (HFl.out _) (by rw [List.length_take]; omega)
      have hX := at3_new 65 wr wr.heap.size (.int .i64 r.n) (.int .i64 r.at_) (.int .i64 r.k) rfl
      have hb3 := hbw.alloc hbw.size (.cells #[.int .i64 r.n, .int .i64 r.at_, .int .i64 r.k] 65)
      have hO3 := hO.alloc (.cells #[.int .i64 r.n, .int .i64 r.at_, .int .i64 r.k] 65)
      clear hr
      go_upto_region 12 with fail
      generalize wr.alloc (.cells #[.int .i64 r.n, .int .i64 r.at_, .int .i64 r.k] 65) = w4 at hX hb3 hO3 ⊢
      generalize wr.heap.size = g4 at hX ⊢
      clear hbw hO c0 c1 c2
      obtain ⟨_, _, _⟩ := hX.cells
      by_cases he : r.n ≠ nn
      · have HK2 : Hid (grF (fun x => decide (x.n ≠ nn)) (l.take (k + 1)) = grF (fun x => decide (x.n ≠ nn)) (l.take k) ++ [r]) := Lib.hid (by rw [HK1.out, if_pos (by simpa using he)])
        have HKV : Hid (grV (grF (fun x => decide (x.n ≠ nn)) (l.take (k + 1))) = grV (grF (fun x => decide (x.n ≠ nn)) (l.take k)) ++ r.rs) := Lib.hid (by rw [HK2.out, HVs.out])
        have HKN : Hid ((grF (fun x => decide (x.n ≠ nn)) (l.take (k + 1))).length = (grF (fun x => decide (x.n ≠ nn)) (l.take k)).length + 1) := Lib.hid (by rw [HK2.out, List.length_append]; rfl)
        clear HK1
        generalize grV (grF (fun x => decide (x.n ≠ nn)) (l.take k)) = xs at *
        generalize (grF (fun x => decide (x.n ≠ nn)) (l.take k)).length = nk at *
        have hd : (r.n != nn) = true := by simpa using he
        go_wp2_with (at_builtin; refine append_recG (W := w2) rfl (.tmp 43) (.tmp 45) 29 rfl 65 i0 (.agg #[.int .i64 0, .int .i64 0, .int .i64 0]) 3 24 Try.underlying29 hi hz0 hz1 hz2 rfl (by decide) w2.heap.size _ nk xs rfl hO3 #[.int .i64 r.n, .int .i64 r.at_, .int .i64 r.k] rfl rfl ?d0 ?d1 ?d2 hb3.size w2.heap.size (Nat.le_refl _) hb3 ?_)
        case d0 => exact ⟨rfl, rfl, rfl⟩
        case d1 => unfold maxLen; omega
        case d2 => omega
        intro v5 w5 hO5 hb5 _ _
        have hO6 : OwnE w5 w2.heap.size 65 3 v5 (grF (fun x => decide (x.n ≠ nn)) (l.take (k + 1))).length (grV (grF (fun x => decide (x.n ≠ nn)) (l.take (k + 1)))) := by
          rw [HKV.out, HKN.out]
          exact hO5
        clear hO5 hO3 hb3 hX
        go_wp2_with fail
        go_roundw
        case rel => exact ⟨k + 1, by omega, by go_num, hO6, hb5⟩
        case measure => simp [intOf]; omega
      · have HK2 : Hid (grF (fun x => decide (x.n ≠ nn)) (l.take (k + 1)) = grF (fun x => decide (x.n ≠ nn)) (l.take k)) := Lib.hid (by rw [HK1.out, if_neg (by simpa using he), List.append_nil])
        clear HK1
        have hd : (r.n != nn) = false := by simpa using he
        go_wp2_with fail
        go_roundw
        case rel => exact ⟨k + 1, by omega, by go_num, by rw [HK2.out]; exact hO3, hb3⟩
        case measure => simp [intOf]; omega
    · obtain rfl : k = n := by omega
      have hlk : l.take k = l := List.take_of_length_le (by have := HLN.out; omega)
      rw [hlk] at hO
      have hle := HFl.out l
      rw [HLN.out] at hle
      have hX0w := HX0.out wr hbw
      have hX1w := HX1.out wr hbw
      have hO2 := hO.base (Nat.zero_le _)
      have hbz := hb.trans (hbw.mono hsz2)
      obtain ⟨a5, c5, rfl⟩ := hO2.formG
      obtain ⟨_, _, _, _, _, _, _, _⟩ := hX0w.cells
      obtain ⟨_, _, _, _, _, _, _, _⟩ := hX0w.frees
      clear hO hbw hb hlk HFt HFl HR HX0 HX1
      generalize hfl : grF (fun x => decide (x.n ≠ nn)) l = fl at hO2 hle
      have HFL := Lib.hid hfl
      clear hfl
      go_upto_region 16 with fail
      have ho6 := (Only.refl g0 wr).setCell 4 (.slice a5 fl.length c5)
      have hX0_6 := at8_set4 hX0w (.slice a5 fl.length c5)
      have hX1_6 := hX1w.only hne10 ho6
      have hO6 := hO2.only8 hX0w ho6 (by decide)
      have hb6 := hbz.trans (ho6.below (Nat.le_refl _))
      generalize wr.setCell ⟨g0, 4, none⟩ (.slice a5 fl.length c5) = w6 at hX0_6 hX1_6 hO6 hb6 ⊢
      clear ho6 hX0w hX1w hO2 hbz
      have HLF : Hid (grF (fun x => decide (x.n ≠ gpN n1)) l = fl) := Lib.hid (by rw [HNN.out]; exact HFL.out)
      obtain ⟨_, _, _, _, _, _, _, _⟩ := hX0_6.cells
      obtain ⟨_, _, _, _, _, _, _, _⟩ := hX1_6.cells
      obtain ⟨_, _, _, _, _, _, _, _⟩ := hX1_6.frees
      have ho7 := put8_only w6 g1 (.int .i64 c.m) (.int .i64 c.t) (.int .i64 c.f) (.int .i64 c.a) (.slice a5 fl.length c5) (.bool true) (.int .i64 gr) (.int .i64 gv)
      have HO7 := Lib.hid (hO6.only8 hX1_6 ho7 (by decide))
      have hZ := at8_put8 hX1_6 (.int .i64 c.m) (.int .i64 c.t) (.int .i64 c.f) (.int .i64 c.a) (.slice a5 fl.length c5) (.bool true) (.int .i64 gr) (.int .i64 gv)
      have HBZ := Lib.hid (hb6.trans (ho7.below hle1))
      obtain ⟨d0, d1, d2, d3, d4, d5, d6, d7⟩ := hZ.cells
      clear hZ ho7
      go_wp2_with fail
      generalize ((((((((w6.setCell ⟨g1, 0, none⟩ (.int .i64 c.m)).setCell ⟨g1, 1, none⟩ (.int .i64 c.t)).setCell ⟨g1, 2, none⟩ (.int .i64 c.f)).setCell ⟨g1, 3, none⟩ (.int .i64 c.a)).setCell ⟨g1, 4, none⟩ (.slice a5 fl.length c5)).setCell ⟨g1, 5, none⟩ (.bool true)).setCell ⟨g1, 6, none⟩ (.int .i64 gr)).setCell ⟨g1, 7, none⟩ (.int .i64 gv)) = w7 at HO7 HBZ d0 d1 d2 d3 d4 d5 d6 d7 ⊢
      refine bodyPost_ret (v := .tuple #[.agg #[.int .i64 c.m, .int .i64 c.t, .int .i64 c.f, .int .i64 c.a, .slice a5 fl.length c5, .bool true, .int .i64 gr, .int .i64 gv], .int .i64 0]) (by simp [results, Try.results25, go_sem, d0, d1, d2, d3, d4, d5, d6, d7]) rfl ⟨.slice a5 fl.length c5, rfl, by rw [HLF.out]; exact HO7.out, by rw [HG.out]; exact HBZ.out⟩
end Go.Proofs.Ytdbmhgfdcdcgfaa
