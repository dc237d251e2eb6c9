/- nack: the document's Piece. -/
import Derived.Test.YtagimjaojpdfiaaNkZa
import Derived.Test.YtagimjaojpdfiaaNkS
import Derived.Deep.RegionHeld3
namespace Go.Proofs.Ytagimjaojpdfiaa
open Go.RowKit
set_option linter.unusedVariables false
theorem nkR_at (l : List (Int × Nat)) : ∀ k, k < l.length → (prR l)[k * 2]? = some (.int .i64 (l[k]?.getD (0, 0)).1) ∧ (prR l)[k * 2 + 1]? = some (.int .i64 ((l[k]?.getD (0, 0)).2 : Int)) := by
  induction l with
  | nil => intro k hk; simp at hk
  | cons p l ih =>
    intro k hk
    have e : prR (p :: l) = .int .i64 p.1 :: .int .i64 (p.2 : Int) :: prR l := by simp [prR]
    rw [e]
    match k with
    | 0 => exact ⟨rfl, rfl⟩
    | k + 1 =>
      have := ih k (by simp at hk; omega)
      rw [show (k + 1) * 2 = k * 2 + 2 from by omega]
      exact this
theorem rdR_at {W : World} {a : Option Addr} {l : List (Int × Nat)} (h : RdR W a l) {k : Nat} (hk : k < l.length) :
    ∃ g, a = some ⟨g, 0, none⟩ ∧ W.cell? ⟨g, k * 2, none⟩ = some (.int .i64 (l[k]?.getD (0, 0)).1) ∧ W.cell? ⟨g, k * 2 + 1, none⟩ = some (.int .i64 ((l[k]?.getD (0, 0)).2 : Int)) := by
  rcases h with rfl | ⟨g, rfl, _, hc⟩
  · simp at hk
  · obtain ⟨e0, e1⟩ := nkR_at l k hk
    exact ⟨g, rfl, hc _ _ e0, hc _ _ e1⟩
set_option maxRecDepth 100000 in
set_option maxHeartbeats 6400000 in
theorem nkRefPiece_any (f b : Int) (l : List (Int × Nat)) (a : Option Addr) (c : Nat) (w : World) (hr : RdR w a l) (hl : l.length ≤ 1000) (hwf : ∀ p ∈ l, 0 ≤ p.1 ∧ p.1 < 65536 ∧ p.2 < 65536) (f0 : 0 ≤ f) (f1 : f ≤ 4294967295) (b0 : 0 ≤ b) (b1 : b ≤ 4294967295) :
    Calls Try.prog 13 #[.int .i64 f, .int .i64 b, .slice a l.length c] w fun e w' =>
      e = .returned (.agg #[.int .i64 (nkPc f b l).count, .int .i64 (nkPc f b l).kind, .string (nkPc f b l).body]) ∧ Below w.heap.size w w' := by
  obtain ⟨q, hq⟩ : ∃ q, nkPc f b l = q := ⟨_, rfl⟩
  rw [hq]
  have hqy : 1 ≤ l.length ∧ l.length ≤ 300 → Hid (q = ⟨1, 205, ofL (be f 4 ++ be b 4 ++ nkB l)⟩) := fun h => Lib.hid (by rw [← hq]; unfold nkPc; rw [if_pos h])
  have hqn : ¬ (1 ≤ l.length ∧ l.length ≤ 300) → Hid (q = zeroPC) := fun h => Lib.hid (by rw [← hq]; unfold nkPc; rw [if_neg h])
  clear hq
  have HR := Lib.hid (fun W (h : Below w.heap.size w W) (k : Nat) (hk : k < l.length) => rdR_at (hr.later h) hk)
  have HWF := Lib.hid (fun (k : Nat) (hk : k < l.length) => (show 0 ≤ (l[k]?.getD (0, 0)).1 ∧ (l[k]?.getD (0, 0)).1 < 65536 ∧ (l[k]?.getD (0, 0)).2 < 65536 from by rw [List.getElem?_eq_getElem hk]; exact hwf _ (List.getElem_mem hk)))
  clear hr hwf
  have hst : Hid (be f 4 ++ be b 4 ++ nkB (l.take 0) = be f 4 ++ be b 4) := Lib.hid (by simp [nkB])
  have hstep : Hid (∀ k, k < l.length → be f 4 ++ be b 4 ++ nkB (l.take k) ++ (be (l[k]?.getD (0, 0)).1 2 ++ be ((l[k]?.getD (0, 0)).2 : Int) 2) = be f 4 ++ be b 4 ++ nkB (l.take (k + 1))) := Lib.hid (fun k hk => by rw [nkB_take l k hk, List.append_assoc (be f 4 ++ be b 4)])
  have hlen : Hid (∀ k, k ≤ l.length → (be f 4 ++ be b 4 ++ nkB (l.take k)).length ≤ 1000000) := Lib.hid (fun k hk => by simp only [List.length_append, be_len, nkB_len, List.length_take]; omega)
  have hfin : Hid (be f 4 ++ be b 4 ++ nkB (l.take l.length) = be f 4 ++ be b 4 ++ nkB l) := Lib.hid (by rw [List.take_length])
  have HP1 := Lib.hid (fun W => nkPut_as 4 f 4 W rfl (by omega) (by omega) (by decide))
  have HP2 := Lib.hid (fun W => nkPut_as 4 b 4 W rfl (by omega) (by omega) (by decide))
  have hsum : ∀ W : World, Sem.run Try.prog (Op.stringOp .add (ofL (be f 4)) (ofL (be b 4))) W = Result.ok (.string (ofL (be f 4 ++ be b 4))) W := fun W => nkSum_run (be f 4) (be b 4) _ rfl (by simp only [List.length_append, be_len]; omega) W
  clear f0 f1 b0 b1
  have hY1 := nkBox_new w zeroPC
  unfold zeroPC at hY1
  simp only at hY1
  have hb1 : Below w.heap.size w (w.alloc (.cells #[.int .i64 0, .int .i64 0, .string { data := #[] }] 30)) := (Below.refl _ _).alloc (Nat.le_refl _) _
  go_enter Try.func13, Try.ntmps13
  go_upto_region 1 with fail
  generalize w.alloc (.cells #[.int .i64 0, .int .i64 0, .string { data := #[] }] 30) = w3 at hY1 hb1 ⊢
  generalize hg : w.heap.size = g at hY1 hb1 HR ⊢
  have HG := Lib.hid hg
  clear hg
  by_cases hnone : ¬ (1 ≤ l.length ∧ l.length ≤ 300)
  · have hqv := (hqn hnone).out
    subst hqv
    obtain ⟨y0, y1, y2, _⟩ := nkBox_S hY1
    have f0 : w3.frozen? ⟨g, 0, none⟩ = false := by simp [World.frozen?, show w3.heap[g]? = _ from hY1]
    have f1 : w3.frozen? ⟨g, 1, none⟩ = false := by simp [World.frozen?, show w3.heap[g]? = _ from hY1]
    have f2 : w3.frozen? ⟨g, 2, none⟩ = false := by simp [World.frozen?, show w3.heap[g]? = _ from hY1]
    have hz : NkBox (((w3.setCell ⟨g, 0, none⟩ (.int .i64 0)).setCell ⟨g, 1, none⟩ (.int .i64 0)).setCell ⟨g, 2, none⟩ (.string { data := #[] })) g ⟨0, 0, { data := #[] }⟩ := block_setCell (i := 2) (u := .string { data := #[] }) (block_setCell (i := 1) (u := .int .i64 0) (block_setCell (i := 0) (u := .int .i64 0) hY1))
    have hbz := (((hb1.setCell (p := ⟨g, 0, none⟩) (Nat.le_refl _) (.int .i64 0)).setCell (p := ⟨g, 1, none⟩) (Nat.le_refl _) (.int .i64 0)).setCell (p := ⟨g, 2, none⟩) (Nat.le_refl _) (.string { data := #[] }))
    clear hqy hqn HR HWF hst hstep hlen hfin HP1 HP2 hsum
    generalize l.length = n at hnone ⊢
    by_cases hz0 : n = 0
    · subst hz0
      go_wp2
      generalize ((w3.setCell ⟨g, 0, none⟩ (.int .i64 0)).setCell ⟨g, 1, none⟩ (.int .i64 0)).setCell ⟨g, 2, none⟩ (.string { data := #[] }) = wz at hz hbz ⊢
      obtain ⟨d0, d1, d2, _⟩ := nkBox_S hz
      refine bodyPost_ret (v := .agg #[.int .i64 0, .int .i64 0, .string { data := #[] }]) (by simp [results, Try.results13, go_sem, d0, d1, d2]) rfl ⟨rfl, by rw [HG.out]; exact hbz⟩
    · have hz1 : 300 < n := by omega
      have hz2 : 1 ≤ n := by omega
      clear hnone
      go_wp2
      generalize ((w3.setCell ⟨g, 0, none⟩ (.int .i64 0)).setCell ⟨g, 1, none⟩ (.int .i64 0)).setCell ⟨g, 2, none⟩ (.string { data := #[] }) = wz at hz hbz ⊢
      obtain ⟨d0, d1, d2, _⟩ := nkBox_S hz
      refine bodyPost_ret (v := .agg #[.int .i64 0, .int .i64 0, .string { data := #[] }]) (by simp [results, Try.results13, go_sem, d0, d1, d2]) rfl ⟨rfl, by rw [HG.out]; exact hbz⟩
  have hsome : 1 ≤ l.length ∧ l.length ≤ 300 := by omega
  obtain ⟨hs1, hs2⟩ := hsome
  have HQ := hqy ⟨hs1, hs2⟩
  clear hqy hqn hnone
  obtain ⟨D1, hD1⟩ : ∃ D, ofL (be f 4) = D := ⟨_, rfl⟩
  obtain ⟨D2, hD2⟩ : ∃ D, ofL (be b 4) = D := ⟨_, rfl⟩
  obtain ⟨D0, hD0⟩ : ∃ D, ofL (be f 4 ++ be b 4) = D := ⟨_, rfl⟩
  rw [hD1, hD2, hD0] at hsum
  rw [hD1] at HP1
  rw [hD2] at HP2
  have HD0 := Lib.hid hD0
  clear hD1 hD2 hD0
  go_wp2_with fail
  refine (HP1.out _).mono ?_
  rintro e w4 ⟨rfl, hb4⟩
  go_wp2_with fail
  refine (HP2.out _).mono ?_
  rintro e w5 ⟨rfl, hb5'⟩
  have hb5 := hb4.trans (hb5'.mono hb4.size)
  have hY5 : NkBox w5 g ⟨0, 0, { data := #[] }⟩ := hY1.later hb5
  have hbb5 : Below g w w5 := hb1.trans (hb5.mono (by have := lt_of_block hY1; omega))
  clear hY1 hb1 hb5 hb4 hb5' HP1 HP2
  go_wp2_with fail
  clear hsum
  go_loopw [7, 26] (fun s i wr => ∃ (k : Nat), k ≤ l.length ∧ i = .int .i64 k ∧ s = .string (ofL (be f 4 ++ be b 4 ++ nkB (l.take k))) ∧ NkBox wr g ⟨0, 0, { data := #[] }⟩ ∧ Below g w wr) (fun _ i _ => l.length - (intOf i).toNat)
  case atStart => exact ⟨0, Nat.zero_le _, rfl, by rw [hst.out, HD0.out], hY5, hbb5⟩
  case round =>
    obtain ⟨k, hk, rfl, rfl, hY7, hbb7⟩ := hrel
    clear hY5 hbb5
    by_cases hlt : k < l.length
    · obtain ⟨ab, rfl, e0, e1⟩ := HR.out _ hbb7 k hlt
      obtain ⟨z0, z1, z2⟩ := HWF.out k hlt
      have HK := Lib.hid (hstep.out k hlt)
      have hL := hlen.out k (by omega)
      generalize l[k]?.getD (0, 0) = p at e0 e1 z0 z1 z2 HK
      obtain ⟨pid, blp⟩ := p
      simp only at e0 e1 z0 z1 z2 HK
      have hY8 : NkBox (wr.alloc (.cells #[.int .i64 pid, .int .i64 (blp : Int)] 143)) g ⟨0, 0, { data := #[] }⟩ := hY7.alloc (.cells #[.int .i64 pid, .int .i64 (blp : Int)] 143)
      have hX8 := atK_new 143 wr #[.int .i64 pid, .int .i64 (blp : Int)]
      have hbb8 := hbb7.alloc (by have := lt_of_block hY7; omega) (.cells #[.int .i64 pid, .int .i64 (blp : Int)] 143)
      clear hY7 hbb7
      obtain ⟨DK, hDK⟩ : ∃ DK, ofL (be f 4 ++ be b 4 ++ nkB (l.take k)) = DK := ⟨_, rfl⟩
      rw [hDK]
      go_upto_region 7 with fail
      generalize wr.alloc (.cells #[.int .i64 pid, .int .i64 (blp : Int)] 143) = w8 at hY8 hX8 hbb8 ⊢
      generalize wr.heap.size = ge at hX8 ⊢
      clear e0 e1
      have hU1 := fun W => nkPut_as 2 pid 2 W rfl (by omega) (by omega) (by decide)
      have hU2 := fun W => nkPut_as 2 (blp : Int) 2 W rfl (by omega) (by omega) (by decide)
      have hM1 : (be pid 2).length = 2 := be_len _ _
      have hM3 : (be (blp : Int) 2).length = 2 := be_len _ _
      obtain ⟨bz, hbz⟩ : ∃ z : Int, (blp : Int) = z := ⟨_, rfl⟩
      rw [hbz] at hU2 hM3 HK hX8
      clear z0 z1 z2 hbz
      generalize be pid 2 = M1 at hU1 hM1 HK
      generalize be bz 2 = M3 at hU2 hM3 HK
      have hs1 : ∀ W : World, _ := fun W => nkSum_run M1 M3 (M1 ++ M3) rfl (by simp only [List.length_append]; omega) W
      have hs3 : ∀ W : World, _ := fun W => nkSum_run (be f 4 ++ be b 4 ++ nkB (l.take k)) (M1 ++ M3) (be f 4 ++ be b 4 ++ nkB (l.take (k + 1))) HK.out (by rw [← HK.out]; simp only [List.length_append] at hL ⊢; omega) W
      rw [hDK] at hs3
      obtain ⟨DZ, hDZ⟩ : ∃ DZ, ofL (be f 4 ++ be b 4 ++ nkB (l.take (k + 1))) = DZ := ⟨_, rfl⟩
      have HDZ := Lib.hid hDZ
      rw [hDZ] at hs3
      clear hDZ hDK HK hL
      generalize ofL (M1 ++ M3) = DD at hs1 hs3
      generalize ofL M1 = E1 at hU1 hs1
      generalize ofL M3 = E3 at hU2 hs1
      have HU1 := Lib.hid hU1
      have HU2 := Lib.hid hU2
      clear hU1 hU2 hM1 hM3
      have HSS : Hid (∀ W : World, Below w8.heap.size w8 W → W.cell? ⟨ge, 0, none⟩ = some (.int .i64 pid) ∧ W.cell? ⟨ge, 1, none⟩ = some (.int .i64 bz) ∧ Below w8.heap.size w8 W) := Lib.hid fun W h => by
        obtain ⟨b0, b1⟩ := (hX8.later h).cells2
        exact ⟨b0, b1, h⟩
      go_region_held3 (fun W => W.cell? ⟨ge, 0, none⟩ = some (.int .i64 pid) ∧ W.cell? ⟨ge, 1, none⟩ = some (.int .i64 bz) ∧ Below w8.heap.size w8 W) (first | (go_keep; done) | exact HSS.out _ (Below.drew (Below.refl _ _)) | exact HSS.out _ (Below.drew (by go_split_ands; assumption)) | exact HSS.out _ (nkBelow_step (by go_split_ands; assumption) (by assumption)) | (go_split_ands; assumption)) (first | (go_at_call_of 57 (Value.int .i64 pid); refine (HU1.out _).mono ?_; rintro e w' ⟨rfl, hbx1⟩) | (go_at_call 57; refine (HU2.out _).mono ?_; rintro e w' ⟨rfl, hbx2⟩))
      all_goals
        go_wp2
        go_roundw
        case rel =>
          refine ⟨k + 1, by omega, by go_num, by rw [HDZ.out], hY8.later ?_, hbb8.trans (Below.mono (B := w8.heap.size) ?_ (by have := lt_of_block hY8; omega))⟩ <;> first | assumption | (go_split_ands; assumption)
        case measure => simp [intOf]; omega
    · obtain rfl : k = l.length := by omega
      rw [hfin.out]
      clear hst hstep hlen hfin hlt
      obtain ⟨RS, hRS⟩ : ∃ RS, ofL (be f 4 ++ be b 4 ++ nkB l) = RS := ⟨_, rfl⟩
      rw [hRS] at HQ ⊢
      clear hRS
      obtain ⟨y0, y1, y2, _⟩ := nkBox_S hY7
      have f0 : wr.frozen? ⟨g, 0, none⟩ = false := by simp [World.frozen?, show wr.heap[g]? = _ from hY7]
      have f1 : wr.frozen? ⟨g, 1, none⟩ = false := by simp [World.frozen?, show wr.heap[g]? = _ from hY7]
      have f2 : wr.frozen? ⟨g, 2, none⟩ = false := by simp [World.frozen?, show wr.heap[g]? = _ from hY7]
      have hz : NkBox (((wr.setCell ⟨g, 0, none⟩ (.int .i64 1)).setCell ⟨g, 1, none⟩ (.int .i64 205)).setCell ⟨g, 2, none⟩ (.string RS)) g ⟨1, 205, RS⟩ := block_setCell (i := 2) (u := .string RS) (block_setCell (i := 1) (u := .int .i64 205) (block_setCell (i := 0) (u := .int .i64 1) hY7))
      have hbz := (((hbb7.setCell (p := ⟨g, 0, none⟩) (Nat.le_refl _) (.int .i64 1)).setCell (p := ⟨g, 1, none⟩) (Nat.le_refl _) (.int .i64 205)).setCell (p := ⟨g, 2, none⟩) (Nat.le_refl _) (.string RS))
      go_wp2
      generalize ((wr.setCell ⟨g, 0, none⟩ (.int .i64 1)).setCell ⟨g, 1, none⟩ (.int .i64 205)).setCell ⟨g, 2, none⟩ (.string RS) = wz at hz hbz ⊢
      obtain ⟨d0, d1, d2, _⟩ := nkBox_S hz
      refine bodyPost_ret (v := .agg #[.int .i64 1, .int .i64 205, .string RS]) (by simp [results, Try.results13, go_sem, d0, d1, d2]) rfl ⟨by rw [HQ.out], by rw [HG.out]; exact hbz⟩
end Go.Proofs.Ytagimjaojpdfiaa
