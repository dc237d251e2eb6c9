/- Adverts.Up; the document's AdvertsPiece; the statements' sameAdverts. -/
import Derived.Test.YteffolbkffafbaaSfA
import Derived.Test.YteffolbkffafbaaRtpBP
import Derived.Test.YteffolbkffafbaaPcJ
import Derived.Deep.RegionHeld3
import Derived.Deep.QuietTactic
import Derived.BigQuiet
namespace Go.Proofs.Yteffolbkffafbaa
open Go.RowKit
set_option linter.unusedVariables false
/-- The paths that are there. -/
def upsL (l : List AD) : List Int := (l.filter (fun a => a.up)).map (fun a => a.path)
theorem upsL_take (l : List AD) (k : Nat) (h : k < l.length) : upsL (l.take (k + 1)) = upsL (l.take k) ++ (if (l[k]?.getD zeroAD).up then [(l[k]?.getD zeroAD).path] else []) := by
  rw [List.take_succ_eq_append_getElem h]
  unfold upsL
  rw [List.filter_append, List.map_append]
  congr 1
  rw [List.getElem?_eq_getElem h]
  simp only [Option.getD_some]
  cases hu : (l[k]).up <;> simp [hu]
theorem upsL_len (l : List AD) : (upsL l).length ≤ l.length := by unfold upsL; rw [List.length_map]; exact List.length_filter_le _ _
set_option maxRecDepth 100000 in
set_option maxHeartbeats 1600000 in
theorem advUp_any (src : Int) (l : List AD) (a : Option Addr) (c : Nat) (w : World) (hr : ReadsA w a l) (hl : l.length ≤ 1000) :
    Calls Try.prog 59 #[.agg #[.int .u32 src, .slice a l.length c]] w fun e w' =>
      Below w.heap.size w w' ∧ ∃ a' c', e = .returned (.slice a' (upsL l).length c') ∧ Reads .i64 w' a' (upsL l) := by
  obtain ⟨i0, hi, hz0, hz1, hz2⟩ := info_parts info64r
  have HR := Lib.hid (fun W (h : Below w.heap.size w W) => hr.later h)
  have HT := Lib.hid (fun k h => upsL_take l k h)
  have HLn : Hid (∀ k, k ≤ l.length → (upsL (l.take k)).length ≤ k) := Lib.hid (fun k hk => by have := upsL_len (l.take k); rw [List.length_take] at this; omega)
  have HF : Hid (upsL (l.take l.length) = upsL l) := Lib.hid (by rw [List.take_length])
  have H0 : Hid (upsL (l.take 0) = []) := Lib.hid rfl
  generalize upsL l = UL at HF ⊢
  clear hr
  have hX1 := atC_new 105 w #[.int .u32 src, .slice a l.length c]
  have hb1 : Below w.heap.size w (w.alloc (.cells #[.int .u32 src, .slice a l.length c] 105)) := (Below.refl _ _).alloc (Nat.le_refl _) _
  go_enter Try.func59, Try.ntmps59
  go_upto_region 1 with fail
  generalize w.alloc (.cells #[.int .u32 src, .slice a l.length c] 105) = w2 at hX1 hb1 ⊢
  generalize hg : w.heap.size = g at hX1 hb1 HR ⊢
  have HG := Lib.hid hg
  clear hg
  have hgl := hX1.lt
  obtain ⟨x0, x1⟩ := hX1.cells2
  go_wp2_with fail
  go_loopw [3, 9] (fun z i wr => ∃ (k m : Nat) (av : Option Addr) (cv : Nat), k ≤ l.length ∧ i = .int .i64 k ∧ z = .slice av m cv ∧ (upsL (l.take k)).length = m ∧ wr.ownsRow g 3 1 (.slice av m cv) m ((upsL (l.take k)).map (Value.int .i64)) ∧ Below g w wr ∧ g ≤ wr.heap.size) (fun _ i _ => l.length - (intOf i).toNat)
  case atStart => exact ⟨0, 0, none, 0, Nat.zero_le _, rfl, rfl, by rw [H0.out]; rfl, by rw [H0.out]; exact World.ownsRow_nil _ _ _ _, hb1, by omega⟩
  case round =>
    obtain ⟨k, m, av, cv, hk, rfl, rfl, hm, hv, hb, hg3⟩ := hrel
    clear hX1 hb1 hgl x0 x1
    by_cases hlt : k < l.length
    · obtain ⟨ab, off, rfl, x0, x1, x2⟩ := (HR.out _ hb).at hlt
      have hT := Lib.hid (HT.out k hlt)
      have hm2 := HLn.out k hk
      have HM := Lib.hid hm
      rw [hm] at hm2
      clear hm
      generalize l[k]?.getD zeroAD = p at x0 x1 x2 hT
      generalize upsL (l.take k) = UK at hT hv HM
      obtain ⟨path, up, rate⟩ := p
      simp only at x0 x1 x2 hT
      have hba := hb.alloc hg3 (.cells #[.int .i64 path, .bool up, .int .i64 rate] 116)
      have hva := hv.alloc (.cells #[.int .i64 path, .bool up, .int .i64 rate] 116)
      have hPa := atC_new 116 wr #[.int .i64 path, .bool up, .int .i64 rate]
      have hga : g ≤ (wr.alloc (.cells #[.int .i64 path, .bool up, .int .i64 rate] 116)).heap.size := by simp; omega
      go_upto_region 5 with fail
      generalize wr.alloc (.cells #[.int .i64 path, .bool up, .int .i64 rate] 116) = w5 at hba hva hPa hga ⊢
      generalize wr.heap.size = gp at hPa ⊢
      clear x0 x1 x2 hb hv hg3
      obtain ⟨x0, x1, x2⟩ := hPa.cells3
      cases up
      · have hUN : Hid (upsL (l.take (k + 1)) = UK) := Lib.hid (by rw [hT.out]; simp)
        clear hT
        go_wp2
        go_roundw
        case rel => exact ⟨k + 1, m, av, cv, by omega, by go_num, rfl, by rw [hUN.out]; exact HM.out, by rw [hUN.out]; exact hva, hba, hga⟩
        case measure => simp [intOf]; omega
      · have hUN : Hid (upsL (l.take (k + 1)) = UK ++ [path]) := Lib.hid (by rw [hT.out]; simp)
        clear hT
        go_wp2_with (at_builtin; refine append_one rfl (.tmp 15) (.tmp 18) 43 rfl g 3 i0 (.int .i64 0) 8 Try.underlying43 hi hz0 hz1 hz2 rfl (.slice av m cv) m (UK.map (Value.int .i64)) rfl hva (.int .i64 path) rfl rfl ?d1 ?d2 g (Nat.le_refl _) hga hba ?_)
        case d1 => unfold maxLen; omega
        case d2 => omega
        intro v' w6 hown6 hb6
        obtain ⟨ad, cq, rfl⟩ := own_slice hown6
        have hown7 : w6.ownsRow g 3 1 (.slice ad (m + 1) cq) (m + 1) ((upsL (l.take (k + 1))).map (Value.int .i64)) := by rw [hUN.out, List.map_append]; exact hown6
        have hg6 : g ≤ w6.heap.size := by rw [← HG.out]; exact hb6.size
        clear hown6 hva hPa hba hga x0 x1 x2
        go_wp2
        go_roundw
        case rel => exact ⟨k + 1, m + 1, ad, cq, by omega, by go_num, rfl, by rw [hUN.out, List.length_append, HM.out]; rfl, hown7, hb6, hg6⟩
        case measure => simp [intOf]; omega
    · obtain rfl : k = l.length := by omega
      rw [HF.out] at hm hv
      obtain ⟨_, _, e5, _, _, _, hrd⟩ := own_reads hv
      cases e5
      go_wp2
      go_ret
      rw [HG.out]
      first | exact ⟨hb, av, cv, by rw [hm]; rfl, hrd⟩ | exact ⟨hb, av, ⟨cv, by rw [hm]; rfl⟩, hrd⟩
theorem prevA_geJ (l : List AD) : ∀ k, (∀ j, j < k → adMay (prevA l j) (l[j]?.getD zeroAD)) → (k : Int) ≤ prevA l k
  | 0, _ => Int.le_refl _
  | k + 1, h => by
    have h1 := prevA_geJ l k (fun j hj => h j (by omega))
    have h2 := (h k (by omega)).1
    show ((k + 1 : Nat) : Int) ≤ (l[k]?.getD zeroAD).path
    omega
theorem boxAt_newC (W : World) (p : PC) : BoxAt (W.alloc (.cells #[.int .i64 p.count, .int .i64 p.kind, .string p.body] 46)) W.heap.size p := heap_alloc_new W _
theorem be_up (u : Bool) : ({ data := if u then #[1] else #[0] } : ByteArray) = ofL (be (upN u) 1) := by cases u <;> kernel_rfl
set_option maxRecDepth 100000 in
set_option maxHeartbeats 6400000 in
theorem refAdvPiece_any (src : Int) (l : List AD) (a : Option Addr) (c : Nat) (w : World) (hr : ReadsA w a l) (hl : l.length ≤ 1000) (h0 : 0 ≤ src) (h1 : src ≤ 4294967295) :
    Calls Try.prog 58 #[.int .i64 src, .slice a l.length c] w fun e w' =>
      e = .returned (.agg #[.int .i64 (asP ⟨src, l⟩).count, .int .i64 (asP ⟨src, l⟩).kind, .string (asP ⟨src, l⟩).body]) ∧ Below w.heap.size w w' := by
  obtain ⟨q, hq⟩ : ∃ q, asP ⟨src, l⟩ = q := ⟨_, rfl⟩
  rw [hq]
  have hqy : adsMay l → Hid (q = ⟨2, 211, ofL (be src 4 ++ adsL l)⟩) := fun h => Lib.hid (by rw [← hq]; unfold asP; rw [if_pos h]; rfl)
  have hqn : ¬ adsMay l → Hid (q = zeroPC) := fun h => Lib.hid (by rw [← hq]; unfold asP; rw [if_neg h])
  clear hq
  have HR := Lib.hid (fun W (h : Below w.heap.size w W) => hr.later h)
  clear hr
  have hst : Hid (be src 4 ++ adsL (l.take 0) = be src 4) := Lib.hid (by simp [adsL])
  have hstep : Hid (∀ k, k < l.length → be src 4 ++ adsL (l.take k) ++ adL (l[k]?.getD zeroAD) = be src 4 ++ adsL (l.take (k + 1))) := Lib.hid (fun k hk => by rw [adsL_take l k hk, List.append_assoc])
  have hlen : Hid (∀ k, k ≤ l.length → (be src 4 ++ adsL (l.take k)).length ≤ 1000000) := Lib.hid (fun k hk => by simp only [List.length_append, be_len, adsL_len, List.length_take]; omega)
  have hfin : Hid (be src 4 ++ adsL (l.take l.length) = be src 4 ++ adsL l) := Lib.hid (by rw [List.take_length])
  have HP := Lib.hid (fun W => put_as 4 src 4 W rfl (by omega) (by omega) (by decide))
  clear h0 h1
  have hY1 := boxAt_newC w zeroPC
  unfold zeroPC at hY1
  simp only at hY1
  have hb1 : Below w.heap.size w (w.alloc (.cells #[.int .i64 0, .int .i64 0, .string { data := #[] }] 46)) := (Below.refl _ _).alloc (Nat.le_refl _) _
  go_enter Try.func58, Try.ntmps58
  go_upto_region 1 with fail
  generalize w.alloc (.cells #[.int .i64 0, .int .i64 0, .string { data := #[] }] 46) = w3 at hY1 hb1 ⊢
  generalize hg : w.heap.size = g at hY1 hb1 HR ⊢
  have HG := Lib.hid hg
  clear hg
  go_wp2_with fail
  refine (HP.out _).mono ?_
  rintro e w5 ⟨rfl, hb5⟩
  have hY5 : BoxAt w5 g ⟨0, 0, { data := #[] }⟩ := hY1.later hb5
  have hbb5 : Below g w w5 := hb1.trans (hb5.mono (by have := lt_of_block hY1; omega))
  clear hY1 hb1 hb5 HP
  go_wp2_with fail
  go_loopw [5, 6, 14] (fun s z i wr => ∃ (k : Nat), k ≤ l.length ∧ i = .int .i64 k ∧ z = .int .i64 (prevA l k) ∧ s = .string (ofL (be src 4 ++ adsL (l.take k))) ∧ BoxAt wr g ⟨0, 0, { data := #[] }⟩ ∧ Below g w wr ∧ Hid (∀ j, j < k → adMay (prevA l j) (l[j]?.getD zeroAD))) (fun _ _ i _ => l.length - (intOf i).toNat)
  case atStart => exact ⟨0, Nat.zero_le _, rfl, rfl, by rw [hst.out], hY5, hbb5, Lib.hid (fun j hj => by omega)⟩
  case round =>
    obtain ⟨k, hk, rfl, rfl, rfl, hY7, hbb7, hJ⟩ := hrel
    clear hY5 hbb5
    by_cases hlt : k < l.length
    · obtain ⟨ab, off, rfl, x0, x1, x2⟩ := (HR.out _ hbb7).at hlt
      have HK := Lib.hid (hstep.out k hlt)
      have hL := hlen.out k (by omega)
      have HPN := Lib.hid (show prevA l (k + 1) = (l[k]?.getD zeroAD).path from rfl)
      have hJ2 : Hid (adMay (prevA l k) (l[k]?.getD zeroAD) → ∀ j, j < k + 1 → adMay (prevA l j) (l[j]?.getD zeroAD)) := Lib.hid (fun h j hj => by
        by_cases hjk : j = k
        · subst hjk; exact h
        · exact hJ.out j (by omega))
      have hJ3 : Hid (¬ adMay (prevA l k) (l[k]?.getD zeroAD) → ¬ adsMay l) := Lib.hid (fun h h2 => h (h2 k hlt))
      have hla := prevA_geJ l k hJ.out
      clear hJ
      generalize prevA l k = last at hJ2 hJ3 hla ⊢
      generalize l[k]?.getD zeroAD = p at x0 x1 x2 HK hJ2 hJ3 HPN
      obtain ⟨path, up, rate⟩ := p
      simp only at x0 x1 x2 HPN
      have hY8 : BoxAt (wr.alloc (.cells #[.int .i64 path, .bool up, .int .i64 rate] 115)) g ⟨0, 0, { data := #[] }⟩ := hY7.alloc (.cells #[.int .i64 path, .bool up, .int .i64 rate] 115)
      have hX8 := atC_new 115 wr #[.int .i64 path, .bool up, .int .i64 rate]
      have hbb8 := hbb7.alloc (by have := lt_of_block hY7; omega) (.cells #[.int .i64 path, .bool up, .int .i64 rate] 115)
      clear hY7 hbb7
      obtain ⟨DK, hDK⟩ : ∃ DK, ofL (be src 4 ++ adsL (l.take k)) = DK := ⟨_, rfl⟩
      rw [hDK]
      go_upto_region 6 with fail
      generalize wr.alloc (.cells #[.int .i64 path, .bool up, .int .i64 rate] 115) = w8 at hY8 hX8 hbb8 ⊢
      generalize wr.heap.size = ge at hX8 ⊢
      clear x0 x1 x2
      obtain ⟨x0, x1, x2⟩ := hX8.cells3
      by_cases hp : adMay last ⟨path, up, rate⟩
      · have HJ := Lib.hid (hJ2.out hp)
        obtain ⟨q1, q2, q3, q4⟩ := hp
        simp only at q1 q2 q3 q4
        clear hJ2 hJ3
        have k1 : ¬ path ≤ last := by omega
        have k2 : ¬ 15 < path := by omega
        have k3 : ¬ rate < 0 := by omega
        have k4 : ¬ 65535 < rate := by omega
        go_upto_if 41 with fail
        go_cut [9] (fun z wx => wx = w8 ∧ z = .string (ofL (be (upN up) 1)))
        case first =>
          have hu := be_up up
          cases up
          · go_wp2_with fail
            go_meet
            exact ⟨rfl, by rw [← hu]; rfl⟩
          · go_wp2_with fail
            go_meet
            exact ⟨rfl, by rw [← hu]; rfl⟩
        case rest =>
        obtain ⟨rfl, rfl⟩ := hcut
        rename World => w8
        have hU1 := fun W => put_as 1 path 1 W rfl (by omega) (by omega) (by decide)
        have hU2 := fun W => put_as 2 rate 2 W rfl (by omega) (by omega) (by decide)
        unfold adL at HK
        simp only at HK
        have hM1 : (be path 1).length = 1 := be_len _ _
        have hM2 : (be (upN up) 1).length = 1 := be_len _ _
        have hM3 : (be rate 2).length = 2 := be_len _ _
        generalize be path 1 = M1 at hU1 hM1 HK
        generalize be (upN up) 1 = M2 at hM2 HK ⊢
        generalize be rate 2 = M3 at hU2 hM3 HK
        have hs1 : ∀ W : World, _ := fun W => sum_run M1 M2 (M1 ++ M2) rfl (by simp only [List.length_append]; omega) W
        have hs2 : ∀ W : World, _ := fun W => sum_run (M1 ++ M2) M3 (M1 ++ M2 ++ M3) rfl (by simp only [List.length_append]; omega) W
        have hs3 : ∀ W : World, _ := fun W => sum_run (be src 4 ++ adsL (l.take k)) (M1 ++ M2 ++ M3) (be src 4 ++ adsL (l.take (k + 1))) HK.out (by rw [← HK.out]; simp only [List.length_append] at hL ⊢; omega) W
        rw [hDK] at hs3
        obtain ⟨DZ, hDZ⟩ : ∃ DZ, ofL (be src 4 ++ adsL (l.take (k + 1))) = DZ := ⟨_, rfl⟩
        have HDZ := Lib.hid hDZ
        rw [hDZ] at hs3
        clear hDZ hDK HK hL
        generalize ofL (M1 ++ M2 ++ M3) = D3 at hs2 hs3
        generalize ofL (M1 ++ M2) = D2 at hs1 hs2
        generalize ofL M1 = E1 at hU1 hs1
        generalize ofL M2 = E2 at hs1 ⊢
        generalize ofL M3 = E3 at hU2 hs2
        have HU1 := Lib.hid hU1
        have HU2 := Lib.hid hU2
        clear hU1 hU2 hM1 hM2 hM3
        have hSS : ∀ W : World, Below w8.heap.size w8 W → W.cell? ⟨ge, 0, none⟩ = some (.int .i64 path) ∧ W.cell? ⟨ge, 2, none⟩ = some (.int .i64 rate) ∧ Below w8.heap.size w8 W := fun W h => by
          obtain ⟨b0, b1, b2⟩ := (hX8.later h).cells3
          exact ⟨b0, b2, h⟩
        have HSS := Lib.hid hSS
        clear hSS
        go_upto_region 12 with fail
        go_region_held3 (fun W => W.cell? ⟨ge, 0, none⟩ = some (.int .i64 path) ∧ W.cell? ⟨ge, 2, none⟩ = some (.int .i64 rate) ∧ Below w8.heap.size w8 W) (first | (go_keep; done) | exact HSS.out _ (Below.drew (Below.refl _ _)) | exact HSS.out _ (Below.drew (by go_split_ands; assumption)) | exact HSS.out _ (below_step (by go_split_ands; assumption) (by assumption)) | (go_split_ands; assumption)) (first | (go_at_call_of 72 (Value.int .i64 path); refine (HU1.out _).mono ?_; rintro e w' ⟨rfl, hbx1⟩) | (go_at_call 72; refine (HU2.out _).mono ?_; rintro e w' ⟨rfl, hbx2⟩))
        all_goals
          go_wp2
          go_roundw
          case rel =>
            refine ⟨k + 1, by omega, by go_num, by rw [HPN.out], by rw [HDZ.out], hY8.later ?_, hbb8.trans (Below.mono (B := w8.heap.size) ?_ (by have := lt_of_block hY8; omega)), HJ⟩ <;> first | assumption | (go_split_ands; assumption)
          case measure => simp [intOf]; omega
      · have hqv := (hqn (hJ3.out hp)).out
        subst hqv
        have hbad : path ≤ last ∨ (¬ path ≤ last ∧ 15 < path) ∨ (¬ path ≤ last ∧ ¬ 15 < path ∧ rate < 0) ∨ (¬ path ≤ last ∧ ¬ 15 < path ∧ ¬ rate < 0 ∧ 65535 < rate) := by
          unfold adMay at hp
          simp only at hp
          omega
        clear hJ2 hJ3 hp hqy hqn HK hL HPN hDK
        obtain ⟨y0, y1, y2, _⟩ := boxAt_S hY8
        have f0 : w8.frozen? ⟨g, 0, none⟩ = false := by simp [World.frozen?, show w8.heap[g]? = _ from hY8]
        have f1 : w8.frozen? ⟨g, 1, none⟩ = false := by simp [World.frozen?, show w8.heap[g]? = _ from hY8]
        have f2 : w8.frozen? ⟨g, 2, none⟩ = false := by simp [World.frozen?, show w8.heap[g]? = _ from hY8]
        have hz : BoxAt (((w8.setCell ⟨g, 0, none⟩ (.int .i64 0)).setCell ⟨g, 1, none⟩ (.int .i64 0)).setCell ⟨g, 2, none⟩ (.string { data := #[] })) g ⟨0, 0, { data := #[] }⟩ := block_setCell (i := 2) (u := .string { data := #[] }) (block_setCell (i := 1) (u := .int .i64 0) (block_setCell (i := 0) (u := .int .i64 0) hY8))
        have hbz := (((hbb8.setCell (p := ⟨g, 0, none⟩) (Nat.le_refl _) (.int .i64 0)).setCell (p := ⟨g, 1, none⟩) (Nat.le_refl _) (.int .i64 0)).setCell (p := ⟨g, 2, none⟩) (Nat.le_refl _) (.string { data := #[] }))
        rcases hbad with k1 | ⟨k1, k2⟩ | ⟨k1, k2, k3⟩ | ⟨k1, k2, k3, k4⟩
        all_goals
          go_wp2
          generalize ((w8.setCell ⟨g, 0, none⟩ (.int .i64 0)).setCell ⟨g, 1, none⟩ (.int .i64 0)).setCell ⟨g, 2, none⟩ (.string { data := #[] }) = wz at hz hbz ⊢
          obtain ⟨d0, d1, d2, _⟩ := boxAt_S hz
          refine bodyPost_ret (v := .agg #[.int .i64 0, .int .i64 0, .string { data := #[] }]) (by simp [results, Try.results58, go_sem, d0, d1, d2]) rfl ⟨rfl, by rw [HG.out]; exact hbz⟩
    · obtain rfl : k = l.length := by omega
      have HQ := hqy (fun j hj => hJ.out j hj)
      rw [hfin.out]
      clear hqy hqn hJ hst hstep hlen hfin hlt
      obtain ⟨RS, hRS⟩ : ∃ RS, ofL (be src 4 ++ adsL l) = RS := ⟨_, rfl⟩
      rw [hRS] at HQ ⊢
      clear hRS
      obtain ⟨y0, y1, y2, _⟩ := boxAt_S hY7
      have f0 : wr.frozen? ⟨g, 0, none⟩ = false := by simp [World.frozen?, show wr.heap[g]? = _ from hY7]
      have f1 : wr.frozen? ⟨g, 1, none⟩ = false := by simp [World.frozen?, show wr.heap[g]? = _ from hY7]
      have f2 : wr.frozen? ⟨g, 2, none⟩ = false := by simp [World.frozen?, show wr.heap[g]? = _ from hY7]
      have hz : BoxAt (((wr.setCell ⟨g, 0, none⟩ (.int .i64 2)).setCell ⟨g, 1, none⟩ (.int .i64 211)).setCell ⟨g, 2, none⟩ (.string RS)) g ⟨2, 211, RS⟩ := block_setCell (i := 2) (u := .string RS) (block_setCell (i := 1) (u := .int .i64 211) (block_setCell (i := 0) (u := .int .i64 2) hY7))
      have hbz := (((hbb7.setCell (p := ⟨g, 0, none⟩) (Nat.le_refl _) (.int .i64 2)).setCell (p := ⟨g, 1, none⟩) (Nat.le_refl _) (.int .i64 211)).setCell (p := ⟨g, 2, none⟩) (Nat.le_refl _) (.string RS))
      go_wp2
      generalize ((wr.setCell ⟨g, 0, none⟩ (.int .i64 2)).setCell ⟨g, 1, none⟩ (.int .i64 211)).setCell ⟨g, 2, none⟩ (.string RS) = wz at hz hbz ⊢
      obtain ⟨d0, d1, d2, _⟩ := boxAt_S hz
      refine bodyPost_ret (v := .agg #[.int .i64 2, .int .i64 211, .string RS]) (by simp [results, Try.results58, go_sem, d0, d1, d2]) rfl ⟨by rw [HQ.out], by rw [HG.out]; exact hbz⟩
set_option maxHeartbeats 1600000 in
theorem sameAds_any (l : List AD) (a a2 : Option Addr) (n c c2 : Nat) (w : World) (hn : n = l.length) (hr : ReadsA w a l) (hr2 : ReadsA w a2 l) (hl : l.length ≤ 1000000) :
    Calls Try.prog 55 #[.slice a n c, .slice a2 n c2] w fun e w' => e = .returned (.bool true) ∧ Below w.heap.size w w' := by
  subst hn
  have HR := Lib.hid (fun W (h : Below w.heap.size w W) => hr.later h)
  have HR2 := Lib.hid (fun W (h : Below w.heap.size w W) => hr2.later h)
  clear hr hr2
  go_enter Try.func55, Try.ntmps55
  go_wp2
  go_loopw [13] (fun i wr => ∃ k : Nat, k ≤ l.length ∧ i = .int .i64 k ∧ Below w.heap.size w wr) (fun i _ => l.length - (intOf i).toNat)
  case atStart => exact ⟨0, Nat.zero_le _, rfl, Below.refl _ _⟩
  case round =>
    obtain ⟨k, hk, rfl, hb1⟩ := hrel
    by_cases hlt : k < l.length
    · obtain ⟨ab, off, rfl, c0, c1, c2'⟩ := (HR.out _ hb1).at hlt
      obtain ⟨ab2, off2, rfl, d0, d1, d2⟩ := (HR2.out _ hb1).at hlt
      generalize l[k]?.getD zeroAD = p at c0 c1 c2' d0 d1 d2
      have i1 : (k : Int) < (l.length : Int) := by omega
      go_wp2_with fail
      go_quiet (fail)
      have hb2 := below_drewN hb1 nq
      go_wp2
      go_roundw
      case rel => exact ⟨k + 1, by omega, by go_num, hb2⟩
      case measure => simp [intOf]; omega
    · obtain rfl : k = l.length := by omega
      go_wp2
      go_ret
      exact ⟨rfl, hb1⟩
end Go.Proofs.Yteffolbkffafbaa
