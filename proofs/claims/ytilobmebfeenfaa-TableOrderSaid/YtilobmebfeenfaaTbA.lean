/- table: All, Up; the law's awake. -/
import Derived.Test.YtilobmebfeenfaaTbT
namespace Go.Proofs.Ytilobmebfeenfaa
open Go.RowKit
set_option linter.unusedVariables false
set_option linter.unusedSimpArgs false
theorem tbSClone_any {w : World} {b : Nat} {v : Value} {n : Nat} {l : List TB} (h : OwnE w b 70 3 v n (tbV l)) (hn : n ≤ 1048576) : Calls Try.prog 48 #[v] w fun e w' => ∃ v', e = .returned v' ∧ OwnE w' w.heap.size 70 3 v' n (tbV l) ∧ Below w.heap.size w w' := by
  obtain ⟨i0, hi, hz0, hz1, hz2⟩ := info_parts tbInsInfo
  have hl : (tbV l).length = n * 3 := h.1.1
  rcases h.1.2 with ⟨rfl, rfl⟩ | ⟨g, off, cap, rfl, _⟩
  · obtain rfl : l = [] := List.eq_nil_of_length_eq_zero (by rw [tbV_len] at hl; omega)
    clear h
    have heq := fun W => Lib.run_eql_slice_nil (P := Try.prog) W 68 70 none 0 0 0 0 Try.underlying68
    go_enter Try.func48, Try.ntmps48
    go_wp2_with fail
    go_ret
    exact ⟨_, rfl, ownE_nil _ _ _ _, Below.refl _ _⟩
  · have hal : Below w.heap.size w (w.alloc (.cells #[] 70)) := (Below.refl _ _).alloc (Nat.le_refl _) _
    have hE : OwnE (w.alloc (.cells #[] 70)) w.heap.size 70 3 (.slice (some ⟨w.heap.size, 0, none⟩) 0 0) 0 [] := ownE_of (World.ownsRow_lit w #[] 0 (Nat.le_refl _) (Nat.zero_le _) rfl)
    obtain ⟨xa, xc, e, hnn, hcc, _⟩ := (h.later hal).srcG
    cases e
    have HC3 := Lib.hid hcc
    have HN3 := Lib.hid hnn
    have H13 := Lib.hid (tbV_one l)
    have HL3 := Lib.hid hl
    clear h hcc hnn hl
    have heq := fun W => Lib.run_eql_slice_nil (P := Try.prog) W 68 70 (some ⟨g, off, none⟩) n cap 0 0 Try.underlying68
    go_enter Try.func48, Try.ntmps48
    go_wp2_with (at_builtin; refine append_anyG _ rfl (.tmp 5) (.tmp 6) 68 rfl 70 i0 (.agg #[.int .i64 0, .bool false, .int .i64 0]) 3 24 Try.underlying68 hi hz0 hz1 hz2 rfl (by decide) w.heap.size _ 0 [] rfl hE (some ⟨g, off, none⟩) n cap (tbV l) rfl HL3.out HN3.out HC3.out H13.out ?m1 ?m2 (by simp) ?_)
    case m1 => unfold maxLen; omega
    case m2 => omega
    intro v3 w3 hO3 hg3 _
    have hk3 : Below w.heap.size w w3 := hal.grown hg3 (by simp) (fun k hk => by cases hk; exact Nat.le_refl _)
    go_wp2_with fail
    go_ret
    exact ⟨_, rfl, by simpa using hO3, hk3⟩
theorem tbAll_any {w : World} {base gt : Nat} {m ver : Int} {v : Value} {l : List TB} (h : TbIn w base gt m ver v l) : Calls Try.prog 22 #[.pointer (some ⟨gt, 0, none⟩)] w fun e w' => ∃ v', e = .returned v' ∧ OwnE w' w.heap.size 70 3 v' l.length (tbV l) ∧ Below w.heap.size w w' := by
  obtain ⟨_, _, _⟩ := h.at3.cells3
  have HC := Lib.hid (tbSClone_any h.row (by have := h.ln; omega))
  clear h
  go_enter Try.func22, Try.ntmps22
  go_wp2_with fail
  refine HC.out.mono ?_
  rintro e w' ⟨v', rfl, h1, h2⟩
  go_wp2_with fail
  go_ret
  exact ⟨v', rfl, h1, h2⟩
def tbUps (l : List TB) : List Int := (l.filter TB.up).map TB.id
theorem tbUps_take (l : List TB) (k : Nat) (r : TB) (h : l[k]? = some r) : tbUps (l.take (k + 1)) = tbUps (l.take k) ++ if r.up = true then [r.id] else [] := by
  unfold tbUps
  rw [List.take_add_one, h]
  by_cases hu : r.up = true
  · simp [hu]
  · simp [hu]
theorem tbUps_le (l : List TB) : (tbUps l).length ≤ l.length := by
  unfold tbUps
  rw [List.length_map]
  exact List.length_filter_le _ _
set_option maxRecDepth 100000 in
set_option maxHeartbeats 3200000 in
theorem tbUp_any {w : World} {base gt : Nat} {m ver : Int} {v : Value} {l : List TB} (h : TbIn w base gt m ver v l) : Calls Try.prog 40 #[.pointer (some ⟨gt, 0, none⟩)] w fun e w' => ∃ v', e = .returned v' ∧ OwnE w' w.heap.size 3 1 v' (tbUps l).length ((tbUps l).map (Value.int .i64)) ∧ Below w.heap.size w w' := by
  obtain ⟨i0, hi, hz0, hz1, hz2⟩ := info_parts info64g
  obtain ⟨a, cap, rfl, hlc, hcap, _⟩ := h.rd
  obtain ⟨_, _, _⟩ := h.at3.cells3
  have HRD := Lib.hid (fun W (hb : Below w.heap.size w W) => (h.later hb).rd)
  have hln := h.ln
  have HT := Lib.hid (tbUps_take l)
  have HLE := Lib.hid (fun k => tbUps_le (l.take k))
  clear h
  go_enter Try.func40, Try.ntmps40
  go_wp2_with fail
  go_loopw [3, 11] (fun vk i wr => ∃ k : Nat, k ≤ l.length ∧ i = .int .i64 k ∧ OwnE wr w.heap.size 3 1 vk (tbUps (l.take k)).length ((tbUps (l.take k)).map (Value.int .i64)) ∧ Below w.heap.size w wr) (fun _ i _ => l.length - (intOf i).toNat)
  case atStart => exact ⟨0, Nat.zero_le _, rfl, ownE_nil _ _ _ _, Below.refl _ _⟩
  case round =>
    obtain ⟨k, hk, rfl, hO, hb⟩ := hrel
    by_cases hlt : k < l.length
    · obtain ⟨r, hr⟩ : ∃ r, l[k]? = some r := ⟨_, List.getElem?_eq_getElem hlt⟩
      obtain ⟨a', cap', ev, _, _, hrd⟩ := HRD.out wr hb
      cases ev
      obtain ⟨g, off, rfl, c0, c1, c2⟩ := hrd k r hr
      have HK1 := Lib.hid (HT.out k r hr)
      have hle := HLE.out k
      rw [List.length_take] at hle
      obtain ⟨rid, rup, rrate⟩ := r
      have hX := atB_new 70 wr wr.heap.size #[.int .i64 rid, .bool rup, .int .i64 rrate] rfl
      have hb3 := hb.alloc hb.size (.cells #[.int .i64 rid, .bool rup, .int .i64 rrate] 70)
      have hO3 := hO.alloc (.cells #[.int .i64 rid, .bool rup, .int .i64 rrate] 70)
      clear hr hrd
      go_upto_region 5 with fail
      generalize wr.alloc (.cells #[.int .i64 rid, .bool rup, .int .i64 rrate] 70) = w4 at hX hb3 hO3 ⊢
      generalize wr.heap.size = g4 at hX ⊢
      clear hb hO c0 c1 c2
      obtain ⟨_, _, _⟩ := hX.cells3
      simp only at HK1
      cases rup with
      | true =>
        have HK2 : Hid (tbUps (l.take (k + 1)) = tbUps (l.take k) ++ [rid]) := Lib.hid (by rw [HK1.out, if_pos rfl])
        generalize tbUps (l.take k) = xs at *
        go_wp2_with (at_builtin; refine append_recG (W := w) rfl (.tmp 17) (.tmp 20) 34 rfl 3 i0 (.int .i64 0) 1 8 Try.underlying34 hi hz0 hz1 hz2 rfl (by decide) w.heap.size _ _ _ rfl hO3 #[.int .i64 rid] rfl rfl ?d0 ?d1 ?d2 hb3.size w.heap.size (Nat.le_refl _) hb3 ?_)
        case d0 => rfl
        case d1 => unfold maxLen; omega
        case d2 => omega
        intro v5 w5 hO5 hb5 _ _
        go_wp2_with fail
        go_roundw
        case rel => exact ⟨k + 1, by omega, by go_num, by rw [HK2.out, List.length_append, List.map_append]; exact hO5, hb5⟩
        case measure => simp [intOf]; omega
      | false =>
        have HK2 : Hid (tbUps (l.take (k + 1)) = tbUps (l.take k)) := Lib.hid (by rw [HK1.out, if_neg (by decide), List.append_nil])
        clear HK1
        go_wp2_with fail
        go_roundw
        case rel => exact ⟨k + 1, by omega, by go_num, by rw [HK2.out]; exact hO3, hb3⟩
        case measure => simp [intOf]; omega
    · obtain rfl : k = l.length := by omega
      rw [List.take_length] at hO
      go_wp2_with fail
      go_ret
      exact ⟨_, rfl, hO, hb⟩
set_option maxRecDepth 100000 in
set_option maxHeartbeats 6400000 in
theorem tbAwake_any (w : World) : Calls Try.prog 14 #[] w fun e w' => e = .returned (.bool true) ∧ Below w.heap.size w w' := by
  have HN := Lib.hid (tbNew_any 1 w)
  go_enter Try.func14, Try.ntmps14
  go_wp2_with fail
  refine HN.out.mono ?_
  rintro e w1 ⟨gt, rfl, hT1, hb1⟩
  have HA := Lib.hid (tbSetNew hT1 ⟨3, true, 0⟩ (by decide) (by simp) (by decide) ⟨by decide, by decide⟩)
  simp only at HA
  go_wp2_with fail
  refine HA.out.mono ?_
  rintro e w2 ⟨v2, rfl, hT2, hsz2, _, _, hb2⟩
  have hbb := hb1.trans hb2
  have e1 : tbPut ⟨3, true, 0⟩ [] = [⟨3, true, 0⟩] := rfl
  rw [e1] at hT2
  have HB := Lib.hid (tbSetFull hT2 ⟨4, false, 0⟩ (by decide) (by intro x hx; simp at hx; subst hx; decide) (by decide))
  simp only at HB
  clear HN HA hT1 hb1 hb2
  go_wp2_with fail
  refine HB.out.mono ?_
  rintro e w3 ⟨rfl, hb3⟩
  have hT3 := hT2.later hb3
  have hgw : w.heap.size ≤ w2.heap.size := hbb.size
  have hb3' := hbb.trans (hb3.mono hgw)
  have HL := Lib.hid (tbLen_q hT3)
  have HU := Lib.hid (tbUp_any hT3)
  go_wp2_with fail
  refine HL.out.mono ?_
  rintro e w3' ⟨rfl, hq⟩
  subst hq
  rename World => w3
  go_wp2_with fail
  refine HU.out.mono ?_
  rintro e w4 ⟨v4, rfl, hO4, hb4⟩
  have e2 : tbUps [⟨3, true, 0⟩] = [3] := rfl
  rw [e2] at hO4
  have hO4 : OwnE w4 w3.heap.size 3 1 v4 1 (([3] : List Int).map (Value.int .i64)) := hO4
  have hb4' := hb3'.trans (hb4.mono hb3'.size)
  have hal : Below w4.heap.size w4 (w4.alloc (.cells #[.int .i64 3] 3)) := (Below.refl _ _).alloc (Nat.le_refl _) _
  obtain ⟨pa, pc, rfl, t1, _, _, hR4⟩ := (hO4.later hal).intsG
  have hO5 : OwnE (w4.alloc (.cells #[.int .i64 3] 3)) w4.heap.size 3 1 (.slice (some ⟨w4.heap.size, 0, none⟩) 1 1) 1 (([3] : List Int).map (Value.int .i64)) := ownE_of (World.ownsRow_lit w4 #[.int .i64 3] 1 (Nat.le_refl _) (by unfold maxLen; omega) rfl)
  obtain ⟨qa, qc, eq, t2, _, _, hR5⟩ := hO5.intsG
  cases eq
  clear t1 t2
  have HS := Lib.hid (sameIntG_any [3] pa _ 1 pc 1 _ rfl hR4 hR5 (by decide))
  have hb5 := hb4'.trans (hal.mono hb4'.size)
  clear hR4 hR5 hO5 hal e1 e2 hT2 hT3 HB HL HU hbb hb3 hb3' hb4 hb4' hO4 hsz2 hgw
  go_wp2_with fail
  refine HS.out.mono ?_
  rintro e w6 ⟨rfl, hb6⟩
  go_wp2_with fail
  go_ret
  exact ⟨rfl, hb5.trans (hb6.mono hb5.size)⟩
end Go.Proofs.Ytilobmebfeenfaa
