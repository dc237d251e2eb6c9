/- nack: the document's Pairs: the walk. -/
import Derived.Test.YtfnaanalhcagfaaNkR
namespace Go.Proofs.Ytfnaanalhcagfaa
open Go.RowKit
set_option linter.unusedVariables false
theorem keep_row {W w' : World} {B1 e1 s1 k1 B2 e2 s2 k2 : Nat} {v1 v2 : Value} {x1 x2 : List Value} (h1 : W.ownsRow B1 e1 s1 v1 k1 x1) (h2 : W.ownsRow B2 e2 s2 v2 k2 x2) (hne : e1 ≠ e2) (hg : W.grownBy w' v2.ownBlock) : w'.ownsRow B1 e1 s1 v1 k1 x1 := by
  refine ⟨h1.1, ?_⟩
  rcases h1.2 with hz | ⟨g, cap, cur, rfl, q1, q2, q3⟩
  · exact .inl hz
  · refine .inr ⟨g, cap, cur, rfl, q1, ?_, q3⟩
    rw [hg.block g (lt_of_block q2) (fun e => ?_)]
    · exact q2
    · rcases h2.2 with ⟨rfl, _⟩ | ⟨g', cap', cur', rfl, _, r2, _⟩
      · simp [Value.ownBlock] at e
      · obtain rfl : g = g' := by simpa [Value.ownBlock] using e
        rw [q2] at r2
        simp at r2
        exact hne r2.2
theorem keep_blk {W w' : World} {g e1 B2 e2 s2 k2 : Nat} {cs : Array Value} {v2 : Value} {x2 : List Value} (h1 : W.heap[g]? = some (Obj.cells cs e1 (0, 0))) (h2 : W.ownsRow B2 e2 s2 v2 k2 x2) (hne : e1 ≠ e2) (hg : W.grownBy w' v2.ownBlock) : w'.heap[g]? = some (Obj.cells cs e1 (0, 0)) := by
  rw [hg.block g (lt_of_block h1) (fun e => ?_)]
  · exact h1
  · rcases h2.2 with ⟨rfl, _⟩ | ⟨g', cap', cur', rfl, _, r2, _⟩
    · simp [Value.ownBlock] at e
    · obtain rfl : g = g' := by simpa [Value.ownBlock] using e
      rw [h1] at r2
      simp at r2
      exact hne r2.2
theorem own_made0 {W : World} {B g T s : Nat} (hB : B ≤ g) (h : W.heap[g]? = some (Obj.cells #[] T (0, 0))) : W.ownsRow B T s (.slice (some ⟨g, 0, none⟩) 0 0) 0 [] :=
  ⟨by simp, .inr ⟨g, 0, #[], rfl, hB, h, Nat.le_refl _, by unfold maxLen; omega, by simp, by simp⟩⟩
theorem take_drop_one (zs : List Int) (k j : Nat) (h : k + j < zs.length) : (zs.drop k).take (j + 1) = (zs.drop k).take j ++ [zs[k + j]?.getD 0] := by
  rw [List.take_succ_eq_append_getElem (by rw [List.length_drop]; omega), List.getElem_drop, List.getElem?_eq_getElem h]
  rfl
def p2 (t : Nat) : Nat := 2 ^ (t - 1)
theorem p2_succ (t : Nat) (h : 1 ≤ t) : 2 * p2 t = p2 (t + 1) := by
  unfold p2
  obtain ⟨s, rfl⟩ : ∃ s, t = s + 1 := ⟨t - 1, by omega⟩
  rw [Nat.add_sub_cancel, Nat.add_sub_cancel, Nat.pow_succ]
  omega
theorem p2_le (t : Nat) (h : t ≤ 16) : p2 t ≤ 32768 := by
  unfold p2
  exact Nat.pow_le_pow_right (n := 2) (by omega) (show t - 1 ≤ 15 by omega)
theorem row_setn {W : World} {B e s k g : Nat} {v : Value} {xs : List Value} (h : W.ownsRow B e s v k xs) (hne : some g ≠ v.ownBlock) (i : Nat) (u : Value) : (W.setCell ⟨g, i, none⟩ u).ownsRow B e s v k xs := by
  refine ⟨h.1, ?_⟩
  rcases h.2 with hz | ⟨g', cap, cur, rfl, q1, q2, q3⟩
  · exact .inl hz
  · exact .inr ⟨g', cap, cur, rfl, q1, by rw [Below.heap_setCell _ _ _ _ (fun e => hne (by rw [e]; rfl))]; exact q2, q3⟩
theorem blk_ne {W : World} {B e s k g T : Nat} {v : Value} {xs : List Value} {cs : Array Value} (h : W.ownsRow B e s v k xs) (hX : W.heap[g]? = some (Obj.cells cs T (0, 0))) (hne : T ≠ e) : some g ≠ v.ownBlock := fun e1 => by
  rcases h.2 with ⟨rfl, _⟩ | ⟨g', cap, cur, rfl, _, r2, _⟩
  · simp [Value.ownBlock] at e1
  · obtain rfl : g = g' := by simpa [Value.ownBlock] using e1
    rw [hX] at r2
    simp at r2
    exact hne r2.2
theorem blp_nil (n : Int) : ∀ k, blp (fun x => ([] : List Int).contains x) n k = 0
  | 0 => rfl
  | k + 1 => by rw [blp, blp_nil n k]; simp
/-- The bits of those in a list. -/
def blA (ad : List Int) (n : Int) : Nat := blp (fun x => ad.contains x) n 16
set_option maxRecDepth 100000 in
set_option maxHeartbeats 6400000 in
theorem refPairs_any (zs : List Int) (a : Option Addr) (c : Nat) (w : World) (hr : Reads .i64 w a zs) (hl : zs.length ≤ 100) (hlc : zs.length ≤ c) (hc63 : c ≤ 9223372036854775807) (hz : ∀ n ∈ zs, 0 ≤ n ∧ n < 65536) :
    Calls Try.prog 29 #[.slice a zs.length c] w fun e w' => ∃ v, e = .returned v ∧ w'.ownsRow w.heap.size 79 2 v (prs zs).length (prR (prs zs)) ∧ Below w.heap.size w w' := by
  obtain ⟨i0, hi, hz0, hz1, hz2⟩ := info_parts infoPrR
  obtain ⟨j0, hj, hy0, hy1, hy2⟩ := info_parts info64
  have HZ := Lib.hid hz
  have HR := Lib.hid (fun (W : World) (h : Below w.heap.size w W) => hr.later h)
  clear hz hr
  go_enter Try.func29, Try.ntmps29
  go_upto_region 3 with fail
  have hA0 : ((w.alloc (.cells #[] 79)).alloc (.cells #[] 3)).heap[w.heap.size]? = some (Obj.cells #[] 79 (0, 0)) := heap_at_old _ _ _ _ (heap_alloc_new _ _)
  have hA1 : ((w.alloc (.cells #[] 79)).alloc (.cells #[] 3)).heap[w.heap.size + 1]? = some (Obj.cells #[] 3 (0, 0)) := by
    have := heap_alloc_new (w.alloc (.cells #[] 79)) (.cells #[] 3)
    rwa [World.size_alloc] at this
  have r0 := own_made0 (s := 2) (Nat.le_refl w.heap.size) hA0
  have r1 := own_made0 (s := 1) (Nat.le_succ w.heap.size) hA1
  have hb0 : Below w.heap.size w ((w.alloc (.cells #[] 79)).alloc (.cells #[] 3)) := ((Below.refl _ _).alloc (Nat.le_refl _) _).alloc (by simp) _
  clear hA0 hA1
  generalize ((w.alloc (.cells #[] 79)).alloc (.cells #[] 3)) = w1 at r0 r1 hb0 ⊢
  go_wp2_with fail
  go_loopw [3, 4, 17] (fun v3 v4 i wr => ∃ (k : Nat) (dn : List Int), k ≤ zs.length ∧ i = .int .i64 k ∧ wr.ownsRow w.heap.size 79 2 v3 (prAt zs k).1.length (prR (prAt zs k).1) ∧ wr.ownsRow w.heap.size 3 1 v4 dn.length (dn.map (Value.int .i64)) ∧ Hid (DoneR zs (prAt zs k).2 dn) ∧ dn.length ≤ 101 * k ∧ Below w.heap.size w wr)
    (fun _ _ i _ => zs.length - (intOf i).toNat)
  case atStart =>
    refine ⟨0, [], Nat.zero_le _, rfl, r0, r1, Lib.hid (fun x hx => ?_), by simp, hb0⟩
    show zs.contains x = !([] : List Int).contains x
    simpa using hx
  case round =>
    clear r0 r1 hb0
    obtain ⟨k, dn, hk, rfl, hrow, hdone, HD, hdl, hb⟩ := hrel
    have hdone0 := hdone
    obtain ⟨av, cv, rfl, _, hcv1, hcv2, hrv⟩ := own_reads hdone0
    clear hdone0
    have hsz := hb.size
    by_cases hlt : k < zs.length
    · obtain ⟨b, off, rfl, hcell⟩ := (HR.out wr hb).at hlt
      have hn0 : 0 ≤ zs[k]?.getD 0 ∧ zs[k]?.getD 0 < 65536 := by rw [List.getElem?_eq_getElem hlt]; exact HZ.out _ (List.getElem_mem hlt)
      obtain ⟨n, hn⟩ : ∃ n, zs[k]?.getD 0 = n := ⟨_, rfl⟩
      rw [hn] at hcell hn0
      have HN := Lib.hid hn
      clear hn
      have hIq := fun r h => in_any dn n av cv wr hrv (by omega) r h
      have hpal := prAt_len zs k
      cases hcc : dn.contains n
      · have hIc := Lib.hid (hIq false hcc)
        have HPS : Hid (prAt zs (k + 1) = ((prAt zs k).1 ++ [(n, blA (adA n (dn ++ [n]) (zs.drop k)) n)], (prAt zs (k + 1)).2) ∧ DoneR zs (prAt zs (k + 1)).2 (dn ++ [n] ++ adA n (dn ++ [n]) (zs.drop k))) := Lib.hid (pair_step zs HZ.out k hlt dn HD.out n HN.out hcc)
        have HCC := Lib.hid hcc
        clear hIq hcc hrv HD HN
        generalize prAt zs k = PA at hrow HPS hpal
        obtain ⟨out, S⟩ := PA
        simp only at hrow HPS hpal
        have hneo : some wr.heap.size ≠ u3.ownBlock := fun e => by have := (hrow.lt _ e.symm).2; omega
        have hX := heap_alloc_new wr (.cells #[.int .i64 n, .int .i64 0] 79)
        have hb1 := hb.alloc hsz (.cells #[.int .i64 n, .int .i64 0] 79)
        have hrow1 := hrow.alloc (.cells #[.int .i64 n, .int .i64 0] 79)
        have hdone1 := hdone.alloc (.cells #[.int .i64 n, .int .i64 0] 79)
        have hsz1 := hb1.size
        go_wp2_with fail
        refine hIc.out.mono ?_
        rintro e w6 ⟨rfl, rfl⟩
        go_upto_region 8 with fail
        generalize hgg : wr.heap.size = g at hX hneo ⊢
        generalize wr.alloc (.cells #[.int .i64 n, .int .i64 0] 79) = w2 at hX hb1 hrow1 hdone1 hsz1 ⊢
        have hgw : w.heap.size ≤ g := by omega
        clear hgg hrow hdone hsz hb hIc
        go_wp2_with (at_builtin; refine append_rec rfl (.tmp 27) (.tmp 29) 65 rfl w.heap.size 3 j0 (.int .i64 0) 1 8 Try.underlying65 hj hy0 hy1 hy2 rfl (by decide) _ dn.length (dn.map (Value.int .i64)) rfl hdone1 #[.int .i64 n] rfl rfl ?d1 ?d2 ?d3 w.heap.size (Nat.le_refl _) hsz1 hb1 ?_)
        case d1 => simp [Value.oneCell']
        case d2 => unfold maxLen; omega
        case d3 => omega
        intro v4 w3 hdone3 hb3 hg3
        have hrow3 := keep_row (hrow1.alloc (.cells #[.int .i64 n] 3)) (hdone1.alloc (.cells #[.int .i64 n] 3)) (by decide) hg3
        have hX3 := keep_blk (heap_at_old w2 (.cells #[.int .i64 n] 3) _ _ hX) (hdone1.alloc (.cells #[.int .i64 n] 3)) (by decide) hg3
        have hdone3' : w3.ownsRow w.heap.size 3 1 v4 (dn ++ [n]).length ((dn ++ [n]).map (Value.int .i64)) := by simpa using hdone3
        clear hX hrow1 hdone1 hdone3 hb1 hg3 hsz1
        have hkc : (k : Int) ≤ (zs.length : Int) := by omega
        have hkc2 : (k : Int) ≤ (c : Int) := by omega
        go_wp2_with fail
        have hble : ∀ (ad : List Int), blA ad n < 65536 := fun ad => blp_lt (fun x => ad.contains x) n 16
        have HBL := Lib.hid hble
        clear hble
        go_loopw [4, 35] (fun v4 zj wr => ∃ (j : Nat) (ad : List Int), j ≤ zs.length - k ∧ zj = .int .i64 j ∧ Hid (adA n (dn ++ [n]) ((zs.drop k).take j) = ad) ∧ ad.length ≤ j ∧ wr.ownsRow w.heap.size 3 1 v4 (dn ++ [n] ++ ad).length ((dn ++ [n] ++ ad).map (Value.int .i64)) ∧ wr.ownsRow w.heap.size 79 2 u3 out.length (prR out) ∧ wr.heap[g]? = some (Obj.cells #[.int .i64 n, .int .i64 (blA ad n : Nat)] 79 (0, 0)) ∧ Below w.heap.size w wr)
          (fun _ zj _ => (zs.length - k) - (intOf zj).toNat)
        case atStart => exact ⟨0, [], Nat.zero_le _, rfl, Lib.hid rfl, Nat.le_refl _, by simpa using hdone3', hrow3, by rw [show blA [] n = 0 from blp_nil n 16]; exact hX3, hb3⟩
        case round =>
          clear hdone3' hrow3 hX3 hb3
          obtain ⟨j, ad, hjle, rfl, HA, hadl, hdj, hrj, hXj, hbj⟩ := hrel
          obtain ⟨DD, hDD⟩ : ∃ DD, dn ++ [n] ++ ad = DD := ⟨_, rfl⟩
          have hdl2 : DD.length ≤ 101 * k + 1 + j := by rw [← hDD]; simp; omega
          rw [hDD] at hdj
          have HDQ := Lib.hid hDD
          have hdj0 := hdj
          obtain ⟨aw, cw, rfl, _, hcw1, hcw2, hrw⟩ := own_reads hdj0
          clear hdj0
          have c0 : wr.cell? ⟨g, 0, none⟩ = some (.int .i64 n) := by have := cell_of_row _ _ 0 _ _ (0, 0) hXj; exact this
          have c1 : wr.cell? ⟨g, 1, none⟩ = some (.int .i64 (blA ad n : Nat)) := by have := cell_of_row _ _ 1 _ _ (0, 0) hXj; exact this
          have hszj := hbj.size
          have hglt := lt_of_block hXj
          by_cases hjlt : j < zs.length - k
          · obtain ⟨b2, off2, e2, hcm⟩ := (HR.out _ hbj).at (show k + j < zs.length by omega)
            cases e2
            rw [← Nat.add_assoc] at hcm
            have hm0 : 0 ≤ zs[k + j]?.getD 0 ∧ zs[k + j]?.getD 0 < 65536 := by rw [List.getElem?_eq_getElem (by omega)]; exact HZ.out _ (List.getElem_mem (by omega))
            have HT := Lib.hid (take_drop_one zs k j (by omega))
            generalize zs[k + j]?.getD 0 = m at hcm hm0 HT
            have hDf := Lib.hid (fun W => refDiff_any n m W hn0.1 (by omega) hm0.1 (by omega))
            obtain ⟨d, hd⟩ : ∃ d, d16 n m = d := ⟨_, rfl⟩
            rw [hd] at hDf
            obtain ⟨db1, db2⟩ := d16_bd n m
            rw [hd] at db1 db2
            have HDD := Lib.hid hd
            clear hd
            have hsn := adA_snoc n (dn ++ [n]) ((zs.drop k).take j) m
            rw [← HT.out, HA.out, HDD.out, hDD] at hsn
            clear hDD
            have HSN := Lib.hid hsn
            clear hsn HT HA
            have hIq := fun r h => in_any DD m aw cw wr hrw (by omega) r h
            by_cases h1 : 1 ≤ d
            · by_cases h2 : d ≤ 16
              · cases hcm2 : DD.contains m
                · have hIc := Lib.hid (hIq false hcm2)
                  have HA2 : Hid (adA n (dn ++ [n]) ((zs.drop k).take (j + 1)) = ad ++ [m]) := Lib.hid (by rw [HSN.out, if_pos ⟨h1, h2, hcm2⟩])
                  have hnm : ad.contains m = false := by
                    rw [← HDQ.out, ← Bool.not_eq_true, List.contains_iff_mem, List.mem_append, not_or] at hcm2
                    rw [← Bool.not_eq_true, List.contains_iff_mem]
                    exact hcm2.2
                  have HB2 : Hid (blA (ad ++ [m]) n = blA ad n + 2 ^ ((d : Int).toNat - 1)) := Lib.hid (blp_more ad n m hn0.1 hn0.2 hm0.1 hm0.2 d HDD.out h1 h2 hnm)
                  have hbn := HBL.out (ad ++ [m])
                  clear hIq hcm2 hnm HSN hrw
                  go_wp2_with fail
                  refine (hDf.out _).mono ?_
                  rintro e w5 ⟨rfl, rfl⟩
                  go_wp2_with fail
                  refine hIc.out.mono ?_
                  rintro e w5 ⟨rfl, rfl⟩
                  go_wp2_with fail
                  obtain ⟨dN, rfl⟩ : ∃ dN : Nat, d = (dN : Int) := ⟨d.toNat, by omega⟩
                  have hB3 : blA (ad ++ [m]) n = blA ad n + p2 dN := by
                    have := HB2.out
                    rw [Int.toNat_natCast] at this
                    exact this
                  have hsum : IntKind.i64.wrap (((blA ad n : Nat) : Int) + ((p2 dN : Nat) : Int)) = ((blA (ad ++ [m]) n : Nat) : Int) := by
                    rw [hB3, IntWalk.i64_in _ ⟨by omega, by omega⟩]
                    simp
                  clear hB3 HB2
                  obtain ⟨nb, hnb⟩ : ∃ nb, blA (ad ++ [m]) n = nb := ⟨_, rfl⟩
                  rw [hnb] at hsum hbn
                  have HNB := Lib.hid hnb
                  clear hnb
                  have hbo := HBL.out ad
                  have hf1 : wr.frozen? ⟨g, 1, none⟩ = false := by simp [World.frozen?, hXj]
                  have hnd : some g ≠ (Value.slice aw DD.length cw).ownBlock := blk_ne hdj hXj (by decide)
                  have hXs : (wr.setCell ⟨g, 1, none⟩ (.int .i64 (nb : Int))).heap[g]? = some (Obj.cells #[.int .i64 n, .int .i64 (nb : Int)] 79 (0, 0)) := block_setCell hXj
                  have hds := row_setn hdj hnd 1 (.int .i64 (nb : Int))
                  have hrs := row_setn hrj hneo 1 (.int .i64 (nb : Int))
                  have hbs := hbj.setCell (p := ⟨g, 1, none⟩) hgw (.int .i64 (nb : Int))
                  have hp2n := p2_le dN (by omega)
                  go_loopw [11, 12] (fun zb zt wx => ∃ t : Nat, 1 ≤ t ∧ t ≤ dN ∧ zt = .int .i64 t ∧ zb = .int .i64 ((p2 t : Nat) : Int) ∧ wx = wr)
                    (fun _ zt _ => dN - (intOf zt).toNat)
                  case atStart => exact ⟨1, Nat.le_refl _, by omega, rfl, rfl, rfl⟩
                  case round =>
                    obtain ⟨t, ht1, ht2, rfl, rfl, rfl⟩ := hrel
                    by_cases htl : t < dN
                    · have hps := p2_succ t ht1
                      have hpl2 := p2_le (t + 1) (by omega)
                      have hmul : IntKind.i64.wrap (2 * ((p2 t : Nat) : Int)) = ((p2 (t + 1) : Nat) : Int) := by
                        rw [← hps, IntWalk.i64_in _ ⟨by omega, by omega⟩]
                        simp
                      obtain ⟨y2, hy2'⟩ : ∃ y2, p2 (t + 1) = y2 := ⟨_, rfl⟩
                      rw [hy2'] at hmul hpl2 hps
                      have HY := Lib.hid hy2'
                      clear hy2' hps
                      go_wp2_with fail
                      go_roundw
                      case rel => exact ⟨t + 1, by omega, by omega, by go_num, by rw [HY.out], trivial⟩
                      case measure => simp [intOf]; omega
                    · obtain rfl : t = dN := by omega
                      go_upto_region 20 with fail
                      generalize wr.setCell ⟨g, 1, none⟩ (.int .i64 (nb : Int)) = w9 at hXs hds hrs hbs ⊢
                      have hs9 := hbs.size
                      clear hXj hdj hrj hbj c0 c1 hf1 hszj hglt hIc hcm hsum
                      go_wp2_with (at_builtin; refine append_rec rfl (.tmp 66) (.tmp 68) 65 rfl w.heap.size 3 j0 (.int .i64 0) 1 8 Try.underlying65 hj hy0 hy1 hy2 rfl (by decide) _ DD.length (DD.map (Value.int .i64)) rfl hds #[.int .i64 m] rfl rfl ?d1 ?d2 ?d3 w.heap.size (Nat.le_refl _) hs9 hbs ?_)
                      case d1 => simp [Value.oneCell']
                      case d2 => unfold maxLen; omega
                      case d3 => omega
                      intro v5 w10 hdone10 hb10 hg10
                      have hr10 := keep_row (hrs.alloc (.cells #[.int .i64 m] 3)) (hds.alloc (.cells #[.int .i64 m] 3)) (by decide) hg10
                      have hX10 := keep_blk (heap_at_old w9 (.cells #[.int .i64 m] 3) _ _ hXs) (hds.alloc (.cells #[.int .i64 m] 3)) (by decide) hg10
                      have hd10 : w10.ownsRow w.heap.size 3 1 v5 (dn ++ [n] ++ (ad ++ [m])).length ((dn ++ [n] ++ (ad ++ [m])).map (Value.int .i64)) := by
                        rw [← List.append_assoc, HDQ.out]; simpa using hdone10
                      clear hdone10 hg10 hXs hds hrs hbs
                      go_wp2_with fail
                      go_roundw
                      case rel => exact ⟨j + 1, ad ++ [m], by omega, by go_num, HA2, by simp; omega, hd10, hr10, by rw [HNB.out]; exact hX10, hb10⟩
                      case measure => simp [intOf]; omega
                · have hIc := Lib.hid (hIq true hcm2)
                  have HA2 : Hid (adA n (dn ++ [n]) ((zs.drop k).take (j + 1)) = ad) := Lib.hid (by rw [HSN.out, if_neg (fun h => by rw [hcm2] at h; exact Bool.noConfusion h.2.2)])
                  clear hIq hcm2 HSN hrw
                  go_wp2_with fail
                  refine (hDf.out _).mono ?_
                  rintro e w5 ⟨rfl, rfl⟩
                  go_wp2_with fail
                  refine hIc.out.mono ?_
                  rintro e w5 ⟨rfl, rfl⟩
                  go_wp2_with fail
                  go_roundw
                  case rel => exact ⟨j + 1, ad, by omega, by go_num, HA2, by omega, by rw [HDQ.out]; exact hdj, hrj, hXj, hbj⟩
                  case measure => simp [intOf]; omega
              · have HA2 : Hid (adA n (dn ++ [n]) ((zs.drop k).take (j + 1)) = ad) := Lib.hid (by rw [HSN.out, if_neg (fun h => h2 h.2.1)])
                clear hIq HSN hrw
                go_wp2_with fail
                refine (hDf.out _).mono ?_
                rintro e w5 ⟨rfl, rfl⟩
                go_wp2_with fail
                go_roundw
                case rel => exact ⟨j + 1, ad, by omega, by go_num, HA2, by omega, by rw [HDQ.out]; exact hdj, hrj, hXj, hbj⟩
                case measure => simp [intOf]; omega
            · have HA2 : Hid (adA n (dn ++ [n]) ((zs.drop k).take (j + 1)) = ad) := Lib.hid (by rw [HSN.out, if_neg (fun h => h1 h.1)])
              clear hIq HSN hrw
              go_wp2_with fail
              refine (hDf.out _).mono ?_
              rintro e w5 ⟨rfl, rfl⟩
              go_wp2_with fail
              go_roundw
              case rel => exact ⟨j + 1, ad, by omega, by go_num, HA2, by omega, by rw [HDQ.out]; exact hdj, hrj, hXj, hbj⟩
              case measure => simp [intOf]; omega
          · obtain rfl : j = zs.length - k := by omega
            have hAe : adA n (dn ++ [n]) (zs.drop k) = ad := by
              have h0 := HA.out
              rwa [List.take_of_length_le (by rw [List.length_drop]; omega)] at h0
            have HP2 := HPS.out
            rw [hAe] at HP2
            have HPQ := Lib.hid HP2
            clear HPS HP2 hAe HA
            obtain ⟨nb, hnb⟩ : ∃ nb, blA ad n = nb := ⟨_, rfl⟩
            rw [hnb] at hXj c1
            have hp := HPQ.out
            rw [hnb, HDQ.out] at hp
            have HPR := Lib.hid hp
            clear hnb hp HPQ HBL
            go_wp2_with (at_builtin; refine append_rec rfl (.tmp 71) (.tmp 73) 62 rfl w.heap.size 79 i0 (.agg #[.int .i64 0, .int .i64 0]) 2 16 Try.underlying62 hi hz0 hz1 hz2 rfl (by decide) _ out.length (prR out) rfl hrj #[.int .i64 n, .int .i64 (nb : Int)] rfl rfl ?d1 ?d2 ?d3 w.heap.size (Nat.le_refl _) hszj hbj ?_)
            case d1 => simp [Value.oneCell']
            case d2 => unfold maxLen; omega
            case d3 => omega
            intro v6 w11 hrow11 hb11 hg11
            have hd11 := keep_row (hdj.alloc (.cells #[.int .i64 n, .int .i64 (nb : Int)] 79)) (hrj.alloc (.cells #[.int .i64 n, .int .i64 (nb : Int)] 79)) (by decide) hg11
            clear hdj hrj hXj hbj c0 c1 hg11 hrw
            go_wp2_with fail
            go_roundw
            case rel =>
              obtain ⟨q1, q2⟩ := HPR.out
              exact ⟨k + 1, DD, by omega, by go_num, by rw [q1]; simp only [prR_snoc]; simpa using hrow11, hd11, Lib.hid q2, by omega, hb11⟩
            case measure => simp [intOf]; omega
      · have hIc := Lib.hid (hIq true hcc)
        have HPS := Lib.hid (pair_skip zs k hlt dn HD.out n HN.out hcc)
        clear hIq hcc hrv HN
        go_wp2_with fail
        refine hIc.out.mono ?_
        rintro e w6 ⟨rfl, rfl⟩
        go_wp2_with fail
        go_roundw
        case rel => exact ⟨k + 1, dn, by omega, by go_num, by rw [HPS.out]; exact hrow, hdone, by rw [HPS.out]; exact HD, by omega, hb⟩
        case measure => simp [intOf]; omega
    · obtain rfl : k = zs.length := by omega
      go_wp2
      go_ret
      exact ⟨_, rfl, hrow, hb⟩
end Go.Proofs.Ytfnaanalhcagfaa
