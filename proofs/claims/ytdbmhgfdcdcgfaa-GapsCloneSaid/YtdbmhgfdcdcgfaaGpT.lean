/- gaps: the document's Came: a leap. -/
import Derived.Test.YtdbmhgfdcdcgfaaGpS
namespace Go.Proofs.Ytdbmhgfdcdcgfaa
open Go.RowKit
set_option linter.unusedVariables false
set_option linter.unusedSimpArgs false
theorem drop_take1 (l : List GW) (u k : Nat) (r : GW) (h : l[k]? = some r) : (l.take (k + 1)).drop u = (l.take k).drop u ++ if u ≤ k then [r] else [] := by
  have hk := (List.getElem?_eq_some_iff.1 h).1
  have hl : (l.take k).length = k := by rw [List.length_take]; omega
  rw [List.take_add_one, h]
  by_cases hu : u ≤ k
  · rw [if_pos hu, List.drop_append_of_le_length (by omega)]
    rfl
  · rw [if_neg hu, List.append_nil, List.drop_of_length_le (by rw [List.length_append, hl]; simp; omega), List.drop_of_length_le (by omega)]
theorem gpLeap_eq (c : GC) (gr n now : Int) (l : List GW) : l.drop (gpGive c.m gr n l).toNat ++ gpNew (gpFrom c.m gr n) (now + c.f) (n - gpFrom c.m gr n).toNat = gpLeap c gr n now l := by
  unfold gpLeap
  rw [List.take_zero, List.nil_append]
  congr 1
  rcases Int.le_total (gpGive c.m gr n l) l.length with h | h
  · rw [Int.min_eq_left h]
  · rw [Int.min_eq_right h, List.drop_of_length_le (by omega), List.drop_of_length_le (by omega)]
set_option maxRecDepth 100000 in
set_option maxHeartbeats 3200000 in
theorem refGpCameLeap {w : World} {vl : Value} {l : List GW} {n : Nat} (c : GC) (gr gv : Int) (n1 now : Int) (hL : OwnE w 0 65 3 vl n (grV l)) (hn : n ≤ 65535) (hc : GcOk c) (hgr : gr < gpN n1) (hgb : -1099511627776 ≤ gr) (hgv : 0 ≤ gv ∧ gv ≤ 1152921504606846976) :
    Calls Try.prog 25 #[grG c vl true gr gv, .int .i64 n1, .int .i64 now] w fun e w' => ∃ v', e = .returned (.tuple #[grG c v' true (gpN n1) (gv + gpGive c.m gr (gpN n1) l), .int .i64 (gpGive c.m gr (gpN n1) l)]) ∧ OwnE w' 0 65 3 v' (gpLeap c gr (gpN n1) (gpK now) l).length (grV (gpLeap c gr (gpN n1) (gpK now) l)) ∧ Below w.heap.size w w' := by
  unfold grG
  obtain ⟨⟨hm0, hm1⟩, _, ⟨hf0, hf1⟩, _⟩ := hc
  obtain ⟨a, cap, rfl, hnc, hcm, hln, hrd⟩ := hL.rdw
  obtain ⟨i0, hi, hz0, hz1, hz2⟩ := info_parts info_want
  unfold maxLen at hcm
  have hX0 := (at8_new 31 w w.heap.size (.int .i64 c.m) (.int .i64 c.t) (.int .i64 c.f) (.int .i64 c.a) (.slice a n cap) (.bool true) (.int .i64 gr) (.int .i64 gv) rfl).later (W' := ((w.alloc (.cells #[.int .i64 c.m, .int .i64 c.t, .int .i64 c.f, .int .i64 c.a, .slice a n cap, .bool true, .int .i64 gr, .int .i64 gv] 31)).alloc (.cells #[.int .i64 0, .int .i64 0, .int .i64 0, .int .i64 0, .slice none 0 0, .bool false, .int .i64 0, .int .i64 0] 31))) ((Below.refl _ _).alloc (Nat.le_refl _) _)
  have hX1 := at8_new 31 (w.alloc (.cells #[.int .i64 c.m, .int .i64 c.t, .int .i64 c.f, .int .i64 c.a, .slice a n cap, .bool true, .int .i64 gr, .int .i64 gv] 31)) (w.heap.size + 1) (.int .i64 0) (.int .i64 0) (.int .i64 0) (.int .i64 0) (.slice none 0 0) (.bool false) (.int .i64 0) (.int .i64 0) (by simp)
  have hb : Below w.heap.size w ((w.alloc (.cells #[.int .i64 c.m, .int .i64 c.t, .int .i64 c.f, .int .i64 c.a, .slice a n cap, .bool true, .int .i64 gr, .int .i64 gv] 31)).alloc (.cells #[.int .i64 0, .int .i64 0, .int .i64 0, .int .i64 0, .slice none 0 0, .bool false, .int .i64 0, .int .i64 0] 31)) := ((Below.refl _ _).alloc (Nat.le_refl _) _).alloc (by simp) _
  obtain ⟨U, hU⟩ : ∃ U, gpGive c.m gr (gpN n1) l = U := ⟨_, rfl⟩
  obtain ⟨S, hS⟩ : ∃ S, gpFrom c.m gr (gpN n1) = S := ⟨_, rfl⟩
  have HEQ := Lib.hid (gpLeap_eq c gr (gpN n1) (gpK now) l)
  rw [hU, hS] at HEQ
  rw [hU]
  have hU1 : max 0 ((n : Int) + gpN n1 - gr - 1 - c.m) = U := by rw [← hU]; unfold gpGive; rw [hln]; omega
  have hnb0 := gpN_bd n1
  have hU2 : 0 ≤ U ∧ U ≤ 4398046511104 := by omega
  have hU3 : (n : Int) + gpN n1 - gr - 1 - c.m ≤ U := by omega
  have hS1 : max (gr + 1) (gpN n1 - c.m) = S := by rw [← hS]; rfl
  have hS2 : gr + 1 ≤ S ∧ gpN n1 - c.m ≤ S ∧ S ≤ gpN n1 := by omega
  have HU3 := Lib.hid (show ∀ j : Int, 0 ≤ j → S + j < gpN n1 → U ≤ (n : Int) + (S + j) - gr - 1 from fun j hj hj2 => by omega)
  clear hU hS hU3
  go_enter Try.func25, Try.ntmps25
  go_upto_region 1 with fail
  generalize ((w.alloc (.cells #[.int .i64 c.m, .int .i64 c.t, .int .i64 c.f, .int .i64 c.a, .slice a n cap, .bool true, .int .i64 gr, .int .i64 gv] 31)).alloc (.cells #[.int .i64 0, .int .i64 0, .int .i64 0, .int .i64 0, .slice none 0 0, .bool false, .int .i64 0, .int .i64 0] 31)) = w2 at *
  have hL2 := hL.later hb
  have hrd2 := hrd.later hb
  generalize hg1 : w.heap.size + 1 = g1 at *
  generalize hg0 : w.heap.size = g0 at *
  have HG := Lib.hid hg0
  have hle1 : g0 ≤ g1 := by omega
  have hne01 : g0 ≠ g1 := by omega
  have hne10 : g1 ≠ g0 := by omega
  have hsz2 : g0 ≤ w2.heap.size := Nat.le_of_lt hX0.lt
  clear hg0 hg1 hL hrd
  have hN1 := Lib.hid (refGpNear_q n1 (-1099511627776) 1099511627776 w2 (by decide))
  have hN2 := Lib.hid (refGpNear_q now 0 1099511627776 w2 (by decide))
  rw [show gAm (-1099511627776) n1 1099511627776 = gpN n1 from rfl] at hN1
  rw [show gAm 0 now 1099511627776 = gpK now from rfl] at hN2
  have hnb := gpN_bd n1
  have hkb := gpK_bd now
  generalize hnn : gpN n1 = nn at *
  generalize hkk : gpK now = kk at *
  have HNN := Lib.hid hnn
  have HKK := Lib.hid hkk
  clear hnn hkk
  obtain ⟨_, _, _, _, _, _, _, _⟩ := hX0.cells
  obtain ⟨_, _, _, _, _, _, _, _⟩ := hX0.frees
  go_wp2_with fail
  refine hN1.out.mono ?_
  rintro e wn ⟨rfl, hq⟩
  have hq2 := hq.symm
  subst hq2
  go_wp2_with fail
  refine hN2.out.mono ?_
  rintro e wn ⟨rfl, hq⟩
  have hq2 := hq.symm
  subst hq2
  clear hN1 hN2 hq
  have hal : Below w2.heap.size w2 (w2.alloc (.cells #[] 65)) := (Below.refl _ _).alloc (Nat.le_refl _) _
  have hE : OwnE (w2.alloc (.cells #[] 65)) w2.heap.size 65 3 (.slice (some ⟨w2.heap.size, 0, none⟩) 0 0) 0 [] := ownE_of (World.ownsRow_lit w2 #[] 0 (Nat.le_refl _) (Nat.zero_le _) rfl)
  have HR := Lib.hid (fun W (h : Below w2.heap.size w2 W) => hrd2.later h)
  have HX0 := Lib.hid (fun W (h : Below w2.heap.size w2 W) => hX0.later h)
  have HX1 := Lib.hid (fun W (h : Below w2.heap.size w2 W) => hX1.later h)
  have HFt := Lib.hid (fun k r (h : l[k]? = some r) => drop_take1 l U.toNat k r h)
  have HLN := Lib.hid hln
  have HVs := Lib.hid grV_snoc
  obtain ⟨_, _, _, _, _, _, _, _⟩ := (hX0.later hal).cells
  go_upto_region 8 with fail
  generalize hw3 : w2.alloc (.cells #[] 65) = w3 at *
  clear hX0 hX1 hrd2 hln hw3 hL2
  go_wp2_with fail
  go_loopw [8, 69] (fun vk i wr => ∃ k : Nat, k ≤ n ∧ i = .int .i64 k ∧ OwnE wr w2.heap.size 65 3 vk ((l.take k).drop U.toNat).length (grV ((l.take k).drop U.toNat)) ∧ Below w2.heap.size w2 wr) (fun _ i _ => n - (intOf i).toNat)
  case atStart => exact ⟨0, Nat.zero_le _, rfl, (by rw [show (l.take 0).drop U.toNat = [] by simp]; exact hE), hal⟩
  case round =>
    obtain ⟨k, hk, rfl, hO, hbw⟩ := hrel
    clear hE hal
    by_cases hlt : k < n
    · obtain ⟨r, hr⟩ : ∃ r, l[k]? = some r := ⟨_, List.getElem?_eq_getElem (by have := HLN.out; omega)⟩
      obtain ⟨g, off, rfl, c0, c1, c2⟩ := HR.out wr hbw k r hr
      have HK1 := Lib.hid (HFt.out k r hr)
      have hkl : ((l.take k).drop U.toNat).length ≤ k := by rw [List.length_drop, List.length_take]; omega
      have hX := at3_new 65 wr wr.heap.size (.int .i64 r.n) (.int .i64 r.at_) (.int .i64 r.k) rfl
      have hb3 := hbw.alloc hbw.size (.cells #[.int .i64 r.n, .int .i64 r.at_, .int .i64 r.k] 65)
      have hO3 := hO.alloc (.cells #[.int .i64 r.n, .int .i64 r.at_, .int .i64 r.k] 65)
      clear hr
      go_upto_region 22 with fail
      generalize wr.alloc (.cells #[.int .i64 r.n, .int .i64 r.at_, .int .i64 r.k] 65) = w4 at hX hb3 hO3 ⊢
      generalize wr.heap.size = g4 at hX ⊢
      clear hbw hO c0 c1 c2
      obtain ⟨_, _, _⟩ := hX.cells
      by_cases he : U ≤ (k : Int)
      · have HK2 : Hid ((l.take (k + 1)).drop U.toNat = (l.take k).drop U.toNat ++ [r]) := Lib.hid (by rw [HK1.out, if_pos (by omega)])
        have HKV : Hid (grV ((l.take (k + 1)).drop U.toNat) = grV ((l.take k).drop U.toNat) ++ r.rs) := Lib.hid (by rw [HK2.out, HVs.out])
        have HKN : Hid (((l.take (k + 1)).drop U.toNat).length = ((l.take k).drop U.toNat).length + 1) := Lib.hid (by rw [HK2.out, List.length_append]; rfl)
        clear HK1
        generalize grV ((l.take k).drop U.toNat) = xs at *
        generalize ((l.take k).drop U.toNat).length = nk at *
        go_wp2_with (at_builtin; refine append_recG (W := w2) rfl (.tmp 77) (.tmp 79) 29 rfl 65 i0 (.agg #[.int .i64 0, .int .i64 0, .int .i64 0]) 3 24 Try.underlying29 hi hz0 hz1 hz2 rfl (by decide) w2.heap.size _ nk xs rfl hO3 #[.int .i64 r.n, .int .i64 r.at_, .int .i64 r.k] rfl rfl ?d0 ?d1 ?d2 hb3.size w2.heap.size (Nat.le_refl _) hb3 ?_)
        case d0 => exact ⟨rfl, rfl, rfl⟩
        case d1 => unfold maxLen; omega
        case d2 => omega
        intro v5 w5 hO5 hb5 _ _
        have hO6 : OwnE w5 w2.heap.size 65 3 v5 ((l.take (k + 1)).drop U.toNat).length (grV ((l.take (k + 1)).drop U.toNat)) := by
          rw [HKV.out, HKN.out]
          exact hO5
        clear hO5 hO3 hb3 hX
        go_wp2_with fail
        go_roundw
        case rel => exact ⟨k + 1, by omega, by go_num, hO6, hb5⟩
        case measure => simp [intOf]; omega
      · have HK2 : Hid ((l.take (k + 1)).drop U.toNat = (l.take k).drop U.toNat) := Lib.hid (by rw [HK1.out, if_neg (by omega), List.append_nil])
        clear HK1
        go_wp2_with fail
        go_roundw
        case rel => exact ⟨k + 1, by omega, by go_num, by rw [HK2.out]; exact hO3, hb3⟩
        case measure => simp [intOf]; omega
    · obtain rfl : k = n := by omega
      have hlk : l.take k = l := List.take_of_length_le (by have := HLN.out; omega)
      rw [hlk] at hO
      obtain ⟨_, _, _, _, _, _, _, _⟩ := (HX0.out wr hbw).cells
      have hql : (l.drop U.toNat).length ≤ k := by rw [List.length_drop, HLN.out]; omega
      have HVA : Hid (∀ j : Nat, grV (l.drop U.toNat ++ gpNew S (kk + c.f) (j + 1)) = grV (l.drop U.toNat ++ gpNew S (kk + c.f) j) ++ (⟨S + j, kk + c.f, 0⟩ : GW).rs) := Lib.hid fun j => by rw [gpNew_succ, ← List.append_assoc, grV_snoc]
      have HVL : Hid (∀ j : Nat, (l.drop U.toNat ++ gpNew S (kk + c.f) j).length = (l.drop U.toNat).length + j) := Lib.hid fun j => by rw [List.length_append, gpNew_len]
      have HV0 : Hid (l.drop U.toNat ++ gpNew S (kk + c.f) 0 = l.drop U.toNat) := Lib.hid (by rw [show gpNew S (kk + c.f) 0 = [] from rfl, List.append_nil])
      obtain ⟨ql, hq⟩ : ∃ ql, (l.drop U.toNat).length = ql := ⟨_, rfl⟩
      rw [hq] at hql HVL
      rw [← HV0.out] at hO
      clear hlk HFt HR hq
      go_wp2_with fail
      go_loopw [8, 15] (fun vk i wz => ∃ j : Nat, (j : Int) ≤ nn - S ∧ i = .int .i64 (S + j) ∧ OwnE wz w2.heap.size 65 3 vk (l.drop U.toNat ++ gpNew S (kk + c.f) j).length (grV (l.drop U.toNat ++ gpNew S (kk + c.f) j)) ∧ Below w2.heap.size w2 wz) (fun _ i _ => (nn - intOf i).toNat)
      case atStart => exact ⟨0, by omega, by simp, hO, hbw⟩
      case round =>
        obtain ⟨j, hj, rfl, hOj, hbz⟩ := hrel
        clear hO hbw
        obtain ⟨_, _, _, _, _, _, _, _⟩ := (HX0.out _ hbz).cells
        by_cases hjl : S + (j : Int) < nn
        · have hcd : decide (U ≤ (k : Int) + (S + j) - gr - 1) = true := decide_eq_true (HU3.out j (by omega) hjl)
          have HVj := Lib.hid (HVA.out j)
          have HVn := Lib.hid (show (l.drop U.toNat ++ gpNew S (kk + c.f) (j + 1)).length = (l.drop U.toNat ++ gpNew S (kk + c.f) j).length + 1 by rw [HVL.out, HVL.out]; omega)
          have hjn : (l.drop U.toNat ++ gpNew S (kk + c.f) j).length ≤ 67000 := by rw [HVL.out]; omega
          generalize grV (l.drop U.toNat ++ gpNew S (kk + c.f) j) = xs at *
          generalize (l.drop U.toNat ++ gpNew S (kk + c.f) j).length = nk at *
          go_wp2_with (at_builtin; refine append_recG (W := w2) rfl (.tmp 107) (.tmp 115) 29 rfl 65 i0 (.agg #[.int .i64 0, .int .i64 0, .int .i64 0]) 3 24 Try.underlying29 hi hz0 hz1 hz2 rfl (by decide) w2.heap.size _ nk xs rfl hOj #[.int .i64 (S + j), .int .i64 (kk + c.f), .int .i64 0] rfl rfl ?d0 ?d1 ?d2 hbz.size w2.heap.size (Nat.le_refl _) hbz ?_)
          case d0 => exact ⟨rfl, rfl, rfl⟩
          case d1 => unfold maxLen; omega
          case d2 => omega
          intro v5 w5 hO5 hb5 _ _
          have hO6 : OwnE w5 w2.heap.size 65 3 v5 (l.drop U.toNat ++ gpNew S (kk + c.f) (j + 1)).length (grV (l.drop U.toNat ++ gpNew S (kk + c.f) (j + 1))) := by
            rw [HVj.out, HVn.out]
            exact hO5
          clear hO5 hOj hbz
          go_wp2_with fail
          go_roundw
          case rel => exact ⟨j + 1, by omega, by go_num, hO6, hb5⟩
          case measure => simp [intOf]; omega
        · have hje : (j : Int) = nn - S := by omega
          have hjt : (nn - S).toNat = j := by omega
          rw [hjt] at HEQ
          have hX0w := HX0.out _ hbz
          have hX1w := HX1.out _ hbz
          have hO2 := hOj.base (Nat.zero_le _)
          have hbq := hb.trans (hbz.mono hsz2)
          rw [HEQ.out] at hO2
          obtain ⟨a5, c5, rfl⟩ := hO2.formG
          obtain ⟨_, _, _, _, _, _, _, _⟩ := hX0w.frees
          have HJE := Lib.hid hjl
          clear hOj hbz hb HX0 HX1 HEQ HVA HVL HV0 hje hjt
          generalize hfl : gpLeap c gr nn kk l = fl at hO2
          have HFL := Lib.hid hfl
          clear hfl
          rename World => wq
          have hgg : gv + U ≤ 4611686018427387904 := by omega
          go_upto_region 33 with fail
          have ho4 := (Only.refl g0 wq).setCell 4 (.slice a5 fl.length c5)
          have h4a := at8_set4 hX0w (.slice a5 fl.length c5)
          have h4b := hX1w.only hne10 ho4
          have hL4 := hO2.only8 hX0w ho4 (by decide)
          have hb4 := hbq.trans (ho4.below (Nat.le_refl _))
          have ho5 := (Only.refl g0 (wq.setCell ⟨g0, 4, none⟩ (.slice a5 fl.length c5))).setCell 6 (.int .i64 nn)
          have h5a := at8_set6 h4a (.int .i64 nn)
          have h5b := h4b.only hne10 ho5
          have hL5 := hL4.only8 h4a ho5 (by decide)
          have hb5 := hb4.trans (ho5.below (Nat.le_refl _))
          have ho6 := (Only.refl g0 ((wq.setCell ⟨g0, 4, none⟩ (.slice a5 fl.length c5)).setCell ⟨g0, 6, none⟩ (.int .i64 nn))).setCell 7 (.int .i64 (gv + U))
          have h6a := at8_set7 h5a (.int .i64 (gv + U))
          have h6b := h5b.only hne10 ho6
          have hL6 := hL5.only8 h5a ho6 (by decide)
          have hb6 := hb5.trans (ho6.below (Nat.le_refl _))
          generalize (((wq.setCell ⟨g0, 4, none⟩ (.slice a5 fl.length c5)).setCell ⟨g0, 6, none⟩ (.int .i64 nn)).setCell ⟨g0, 7, none⟩ (.int .i64 (gv + U))) = w6 at h6a h6b hL6 hb6 ⊢
          clear ho4 ho5 ho6 h4a h4b h5a h5b hL4 hL5 hb4 hb5 hX0w hX1w hO2 hbq
          have HLF : Hid (gpLeap c gr (gpN n1) (gpK now) l = fl) := Lib.hid (by rw [HNN.out, HKK.out]; exact HFL.out)
          obtain ⟨_, _, _, _, _, _, _, _⟩ := h6a.cells
          obtain ⟨_, _, _, _, _, _, _, _⟩ := h6b.cells
          obtain ⟨_, _, _, _, _, _, _, _⟩ := h6b.frees
          have ho7 := put8_only w6 g1 (.int .i64 c.m) (.int .i64 c.t) (.int .i64 c.f) (.int .i64 c.a) (.slice a5 fl.length c5) (.bool true) (.int .i64 nn) (.int .i64 (gv + U))
          have HO7 := Lib.hid (hL6.only8 h6b ho7 (by decide))
          have hZ := at8_put8 h6b (.int .i64 c.m) (.int .i64 c.t) (.int .i64 c.f) (.int .i64 c.a) (.slice a5 fl.length c5) (.bool true) (.int .i64 nn) (.int .i64 (gv + U))
          have HBZ := Lib.hid (hb6.trans (ho7.below hle1))
          obtain ⟨d0, d1, d2, d3, d4, d5, d6, d7⟩ := hZ.cells
          clear hZ ho7
          go_wp2_with fail
          generalize ((((((((w6.setCell ⟨g1, 0, none⟩ (.int .i64 c.m)).setCell ⟨g1, 1, none⟩ (.int .i64 c.t)).setCell ⟨g1, 2, none⟩ (.int .i64 c.f)).setCell ⟨g1, 3, none⟩ (.int .i64 c.a)).setCell ⟨g1, 4, none⟩ (.slice a5 fl.length c5)).setCell ⟨g1, 5, none⟩ (.bool true)).setCell ⟨g1, 6, none⟩ (.int .i64 nn)).setCell ⟨g1, 7, none⟩ (.int .i64 (gv + U))) = w7 at HO7 HBZ d0 d1 d2 d3 d4 d5 d6 d7 ⊢
          refine bodyPost_ret (v := .tuple #[.agg #[.int .i64 c.m, .int .i64 c.t, .int .i64 c.f, .int .i64 c.a, .slice a5 fl.length c5, .bool true, .int .i64 nn, .int .i64 (gv + U)], .int .i64 U]) (by simp [results, Try.results25, go_sem, d0, d1, d2, d3, d4, d5, d6, d7]) rfl ⟨.slice a5 fl.length c5, by first | rfl | (rw [HNN.out]; done), by rw [HLF.out]; exact HO7.out, by rw [HG.out]; exact HBZ.out⟩
end Go.Proofs.Ytdbmhgfdcdcgfaa
