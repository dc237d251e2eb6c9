/- QueueOrder: the walk. -/
import Derived.Test.YtgmggilnhkdceaaQuF
import Derived.Test.YtgmggilnhkdceaaCrcD
namespace Go.Proofs.Ytgmggilnhkdceaa
open Go.RowKit
set_option linter.unusedVariables false
set_option linter.unusedSimpArgs false
theorem quBnds : quC 40 = 40 ∧ quC 1048576 = 1048576 := by decide
theorem OwnE.textsN {W : World} {b n : Nat} {e : TypeId} {v : Value} {l : List ByteArray} (h : OwnE W b e 1 v n (quV l)) (hl : l.length = n) (hn : 0 < n) : ∃ g off cap, v = .slice (some ⟨g, off, none⟩) n cap ∧ n ≤ cap ∧ cap ≤ maxLen ∧ ∀ i s, l[i]? = some s → W.cell? ⟨g, off + i, none⟩ = some (.string s) := by
  subst hl
  exact h.texts hn
namespace queueOrder
set_option maxRecDepth 100000 in
set_option maxHeartbeats 6400000 in
theorem walk (p0 : Option Addr) (len0 cap0 : Nat) (z0 : List ByteArray) (p1 : Option Addr) (len1 cap1 : Nat) (z1 : List Int) (w : World) (w0 : IsTexts w p0 len0 cap0 z0) (w1 : IsRow .i64 w p1 len1 cap1 z1) :
    Calls Try.prog 12 #[.slice p0 len0 cap0, .slice p1 len1 cap1] w fun e w' => e = .returned (.bool true) ∧ Below w.heap.size w w' := by
  obtain ⟨zs, rfl, l1, l2, hr0, hz0⟩ := w0.reads
  obtain ⟨es, rfl, m1, m2, hr1, _⟩ := w1.reads
  have HR1 := Lib.hid (fun (W : World) (h : Below w.heap.size w W) => hr1.later h)
  have HFew : Hid (∀ W : World, Below w.heap.size w W → Calls Try.prog 41 #[.slice p0 zs.length cap0, .int .i64 30, .int .i64 20] W fun e w' => ∃ v, e = .returned v ∧ w'.ownsRow W.heap.size 9 1 v (zs.take 30).length (((zs.take 30).map (cutB · 20)).map Value.string) ∧ Below W.heap.size W w') := Lib.hid (fun W hW => few_any zs p0 cap0 zs.length 30 20 W rfl (hr0.later hW) (by omega) (fun s hs => by have := hz0 s hs; unfold maxLen at this; omega) (by omega) (by omega))
  have hmask : ∀ z : Int, bits .and .i64 z 3 = z % 4 := fun z => i64_mask z 2 (by omega)
  obtain ⟨ls, hls⟩ : ∃ ls, ls = (zs.take 30).map (cutB · 20) := ⟨_, rfl⟩
  have hlen : ls.length ≤ 30 := by rw [hls, List.length_map, List.length_take]; omega
  have hsize : ∀ s ∈ ls, s.size ≤ 20 := fun s hs => by
    rw [hls] at hs
    obtain ⟨t, _, rfl⟩ := List.mem_map.1 hs
    exact cutB_size t 20
  have HSz := Lib.hid hsize
  have HL0 : Hid ((zs.take 30).length = ls.length) := Lib.hid (by rw [hls, List.length_map])
  have HL1 : Hid (((zs.take 30).map (cutB · 20)).map Value.string = quV ls) := Lib.hid (by rw [hls]; rfl)
  obtain ⟨hq40, hqM⟩ := quBnds
  have HQ40 := Lib.hid hq40
  have HQM := Lib.hid hqM
  clear w0 w1 hr0 hr1 hz0 hls hsize hq40 hqM l2 m2
  go_enter Try.func12, Try.ntmps12
  go_wp2_with fail
  refine (quAwake_any w).mono ?_
  rintro e wa ⟨rfl, hba⟩
  go_wp2_with fail
  refine (HFew.out wa hba).mono ?_
  rintro e wb ⟨vl, rfl, hown, hkb⟩
  rw [HL0.out, HL1.out] at hown
  have hbb := hba.trans (hkb.mono hba.size)
  have hRow := (ownE_of hown).base hba.size
  clear hba hkb hown HFew HL0 HL1
  obtain ⟨al, cl, rfl⟩ := hRow.form
  go_wp2_with fail
  refine (quNew_any 40 1048576 wb).mono ?_
  rintro e wc ⟨rfl, hQ0, hkc⟩
  have hbc := hbb.trans (hkc.mono hbb.size)
  have hRc := hRow.later hkc
  have hQc := hQ0
  have hgB : w.heap.size ≤ wb.heap.size := hbb.size
  clear hbb hkc hRow hQ0
  generalize wb.heap.size = gq at hQc hgB ⊢
  obtain ⟨i0, hi, hz0, hz1, hz2⟩ := info_parts info_qtext
  go_wp2_with fail
  go_loopw [6, 7] (fun t i wr => ∃ (k i' : Nat) (v : Value), k ≤ ls.length ∧ i' ≤ k ∧ t = .int .i64 k ∧ i = .int .i64 i' ∧ QIn wr gq gq 40 1048576 v (ls.take k) ∧ OwnE wr w.heap.size 9 1 (.slice al ls.length cl) ls.length (quV ls) ∧ Below w.heap.size w wr) (fun t _ _ => ls.length - (intOf t).toNat)
  case atStart => exact ⟨0, 0, _, Nat.zero_le _, Nat.le_refl _, rfl, rfl, hQc, hRc, hbc⟩
  case round =>
    obtain ⟨k, i', v, hk, hik, rfl, rfl, hQ, hR, hb⟩ := hrel
    clear hQc hRc hbc
    by_cases hlt : k < ls.length
    · obtain ⟨g, off, cap, e, hc1, hc2, hcl⟩ := hR.texts (by omega)
      simp only [Value.slice.injEq, true_and] at e
      obtain ⟨rfl, rfl⟩ := e
      have HCL := Lib.hid (fun i s (e : ls[i]? = some s) => hcl i s e)
      clear hcl
      go_upto_if 34 with fail
      go_cut [8] (fun y wx => ∃ n : Nat, 1 ≤ n ∧ n ≤ 4 ∧ y = .int .i64 n ∧ wx = wr)
      case first =>
        by_cases hie : i' < es.length
        · obtain ⟨eb, eo, rfl, hcz⟩ := (HR1.out wr hb).at hie
          generalize es[i']?.getD 0 = z at hcz
          have hz0 : 0 ≤ z % 4 := by omega
          have hz1 : z % 4 ≤ 3 := by omega
          have hwz : IntKind.i64.wrap (1 + z % 4) = 1 + z % 4 := IntWalk.i64_in _ ⟨by omega, by omega⟩
          go_wp2_with fail
          go_meet
          exact ⟨(1 + z % 4).toNat, by omega, by omega, by congr 1; omega, rfl⟩
        · go_wp2_with fail
          go_meet
          exact ⟨1, Nat.le_refl _, by omega, rfl, rfl⟩
      case rest =>
      obtain ⟨n, n1, n4, rfl, hwx⟩ := hcut
      subst hwx
      rename World => wn
      obtain ⟨e, he⟩ : ∃ e, e = min ls.length (k + n) := ⟨_, rfl⟩
      have he1 : k < e := by omega
      have he2 : e ≤ ls.length := by omega
      have hmin : min (ls.length : Int) ((k : Int) + n) = (e : Int) := by omega
      have hwn : IntKind.i64.wrap ((k : Int) + n) = (k : Int) + n := IntWalk.i64_in _ ⟨by omega, by omega⟩
      have hck : ¬ cl = k := by omega
      obtain ⟨cnt, hcnt⟩ : ∃ c, e - k = c := ⟨_, rfl⟩
      have hc0 : 0 < cnt := by omega
      have hkc : k + cnt = e := by omega
      obtain ⟨ts, hts⟩ : ∃ ts, ts = (ls.drop k).take cnt := ⟨_, rfl⟩
      have htl : ts.length = cnt := by rw [hts, List.length_take, List.length_drop]; omega
      have HTake : Hid (ls.take k ++ ts = ls.take e) := Lib.hid (by rw [hts, ← hkc, List.take_add])
      have HT1 : Hid (∀ j s, j < cnt → ls[k + j]? = some s → quV (ts.take (j + 1)) = quV (ts.take j) ++ [.string s]) := Lib.hid (fun j s hj e => quV_at ts j s (by rw [hts, List.getElem?_take, if_pos hj, List.getElem?_drop]; exact e))
      have HTt : Hid (quTot (ls.take k) + quTot ts ≤ 1048576) := Lib.hid (by
        have h1 := quTot_le (ls.take k ++ ts) 20 (fun s hs => HSz.out s (by rw [HTake.out] at hs; exact List.mem_of_mem_take hs))
        rw [quTot_app, HTake.out, List.length_take] at h1
        omega)
      have HPush : Hid (∀ (W : World) (v : Value) (ab ao c : Nat), QIn W gq gq 40 1048576 v (ls.take k) → (∀ i s, ts[i]? = some s → W.cell? ⟨ab, ao + i, none⟩ = some (.string s)) → Calls Try.prog 42 #[.pointer (some ⟨gq, 0, none⟩), .slice (some ⟨ab, ao, none⟩) cnt c] W fun e w' => e = .returned (.bool true) ∧ (∃ v', QIn w' gq gq 40 1048576 v' (ls.take (k + cnt))) ∧ Below gq W w' ∧ KeptQ W w') := Lib.hid (fun W v ab ao c h1 h2 => by
        have := quPush_any h1 ts (by omega) ab ao c h2 (by rw [HQ40.out, List.length_take]; omega) (by rw [HQM.out]; exact HTt.out)
        rw [htl, HTake.out, ← hkc] at this
        exact this)
      have htt : ts.take cnt = ts := List.take_of_length_le (by omega)
      have HTT := Lib.hid htt
      have HTL := Lib.hid htl
      clear he hts htl htt HTake HTt
      go_wp2_with fail
      go_loopw [9, 52] (fun v2 j wx => ∃ j' : Nat, j' ≤ cnt ∧ j = .int .i64 j' ∧ OwnE wx wn.heap.size 71 1 v2 j' (quV (ts.take j')) ∧ Below wn.heap.size wn wx) (fun _ j _ => cnt - (intOf j).toNat)
      case atStart => exact ⟨0, Nat.zero_le _, rfl, ownE_nil _ _ _ _, Below.refl _ _⟩
      case round =>
        obtain ⟨j', hj, rfl, hO, hbx⟩ := hrel
        by_cases hjl : j' < cnt
        · obtain ⟨s, hs⟩ : ∃ s, ls[k + j']? = some s := ⟨_, List.getElem?_eq_getElem (by omega)⟩
          have hcell := cell_later hbx (HCL.out (k + j') s hs)
          rw [← Nat.add_assoc] at hcell
          have HV := Lib.hid (HT1.out j' s hjl hs)
          clear hs
          generalize quV (ts.take j') = xs at hO HV
          go_wp2_with (at_builtin; refine append_atE1 (W := wn) rfl (.tmp 56) (.tmp 58) 85 rfl 71 i0 (.string ByteArray.empty) 16 Try.underlying85 hi hz0 hz1 hz2 rfl wn.heap.size _ j' xs rfl hO (.string s) rfl rfl ?d1 ?d2 hbx.size wn.heap.size (Nat.le_refl _) hbx ?_)
          case d1 => unfold maxLen; omega
          case d2 => omega
          intro v3 w3 hO3 hb3 _ _
          rw [← HV.out] at hO3
          clear hO hbx hcell
          go_wp2
          go_roundw
          case rel => exact ⟨j' + 1, by omega, by go_num, hO3, hb3⟩
          case measure => simp [intOf]; omega
        · obtain rfl : j' = cnt := by omega
          rw [HTT.out] at hO
          obtain ⟨g2, o2, c2, rfl, _, _, hce⟩ := hO.textsN HTL.out hc0
          have HCE := Lib.hid hce
          have hQx := hQ.later hbx
          have hRx := hR.later hbx
          have hbz := hb.trans (hbx.mono hb.size)
          clear hO hbx hQ hR hb hce HTT HTL
          go_wp2_with fail
          refine (HPush.out _ _ _ _ _ hQx HCE.out).mono ?_
          rintro e w5 ⟨rfl, ⟨v5, hQ5⟩, hk5, hK5⟩
          have hR5 := hRx.keptQ hK5 (by decide) (by decide)
          have hb5 := hbz.trans (hk5.mono hgB)
          clear hQx hRx hbz hk5 hK5 HCE HPush
          go_wp2_with fail
          go_roundw
          case rel => exact ⟨k + j', i' + 1, v5, by omega, by omega, by go_num, by go_num, hQ5, hR5, hb5⟩
          case measure => simp [intOf]; omega
    · obtain rfl : k = ls.length := by omega
      rw [List.take_length] at hQ
      have hQ0 : QIn wr gq gq 40 1048576 v (ls.drop 0) := hQ
      clear hQ HSz
      go_wp2_with fail
      go_loopw [71] (fun i wx => ∃ (k : Nat) (v : Value), k ≤ ls.length ∧ i = .int .i64 k ∧ QIn wx gq gq 40 1048576 v (ls.drop k) ∧ OwnE wx w.heap.size 9 1 (.slice al ls.length cl) ls.length (quV ls) ∧ Below w.heap.size w wx) (fun i _ => ls.length - (intOf i).toNat)
      case atStart => exact ⟨0, v, Nat.zero_le _, rfl, hQ0, hR, hb⟩
      case round =>
        obtain ⟨k, v9, hk9, rfl, hQ9, hR9, hb9⟩ := hrel
        clear hQ0 hR hb
        by_cases hlt9 : k < ls.length
        · obtain ⟨s, hs⟩ : ∃ s, ls[k]? = some s := ⟨_, List.getElem?_eq_getElem hlt9⟩
          obtain ⟨g, off, cap, e, hc1, hc2, hcl⟩ := hR9.texts (by omega)
          simp only [Value.slice.injEq, true_and] at e
          obtain ⟨rfl, rfl⟩ := e
          have hcell := hcl k s hs
          have hdr : ls.drop k = s :: ls.drop (k + 1) := by
            obtain ⟨h1, rfl⟩ := List.getElem?_eq_some_iff.1 hs
            exact List.drop_eq_getElem_cons h1
          rw [hdr] at hQ9
          have HPop := Lib.hid (quPop1_any hQ9)
          clear hcl hdr hs hQ9
          go_wp2_with fail
          refine HPop.out.mono ?_
          rintro e w5 ⟨rfl, ⟨v5, hQ5⟩, hk5, hK5⟩
          have hR5 := hR9.keptQ hK5 (by decide) (by decide)
          have hb5 := hb9.trans (hk5.mono hgB)
          clear hR9 hb9 hk5 hK5 HPop hcell
          go_wp2_with fail
          go_roundw
          case rel => exact ⟨k + 1, v5, by omega, by go_num, hQ5, hR5, hb5⟩
          case measure => simp [intOf]; omega
        · obtain rfl : k = ls.length := by omega
          rw [List.drop_length] at hQ9
          go_wp2_with fail
          refine (quPop0_any hQ9).mono ?_
          rintro e w5 ⟨rfl, rfl⟩
          go_wp2_with fail
          refine (quBytes_q hQ9).mono ?_
          rintro e w6 ⟨rfl, rfl⟩
          rw [quTot_nil]
          go_wp2_with fail
          go_ret
          exact ⟨by simp, hb9⟩
end queueOrder
end Go.Proofs.Ytgmggilnhkdceaa
