/- queue: Clone; what the law keeps; stays; Filter. -/
import Derived.Test.YtgmggilnhkdceaaQuI
namespace Go.Proofs.Ytgmggilnhkdceaa
open Go.RowKit
set_option linter.unusedVariables false
set_option linter.unusedSimpArgs false
set_option maxRecDepth 100000 in
set_option maxHeartbeats 1600000 in
theorem quClone_any {w : World} {base gq : Nat} {m b : Int} {v : Value} {l : List ByteArray} (h : QIn w base gq m b v l) : Calls Try.prog 40 #[.pointer (some ⟨gq, 0, none⟩)] w fun e w' => ∃ gc v', e = .returned (.pointer (some ⟨gc, 0, none⟩)) ∧ QIn w' w.heap.size gc m b v' l ∧ Below w.heap.size w w' := by
  have HA : Hid (∀ W, Below w.heap.size w W → Calls Try.prog 66 #[.pointer (some ⟨gq, 0, none⟩)] W fun e w' => ∃ v', e = .returned v' ∧ OwnE w' W.heap.size 71 1 v' l.length (quV l) ∧ Below W.heap.size W w') := Lib.hid (fun W hW => quAll_any (h.later hW))
  have HSS : Hid (∀ W : World, Below w.heap.size w W → W.cell? ⟨gq, 0, none⟩ = some (.int .i64 m) ∧ W.cell? ⟨gq, 1, none⟩ = some (.int .i64 b) ∧ W.cell? ⟨gq, 3, none⟩ = some (.int .i64 (quTot l))) := Lib.hid (fun W hW => ⟨(h.at4.later hW).cells.1, (h.at4.later hW).cells.2.1, (h.at4.later hW).cells.2.2.2⟩)
  have HL := Lib.hid h.len
  have HT := Lib.hid h.tot
  obtain ⟨_, _, _, _⟩ := h.at4.cells
  clear h
  go_enter Try.func40, Try.ntmps40
  go_wp2_with fail
  go_region_held3 (fun W => W.cell? ⟨gq, 0, none⟩ = some (.int .i64 m) ∧ W.cell? ⟨gq, 1, none⟩ = some (.int .i64 b) ∧ W.cell? ⟨gq, 3, none⟩ = some (.int .i64 (quTot l))) (first | (go_keep; done) | exact HSS.out _ (Below.drew (Below.refl _ _)) | exact HSS.out _ hk5 | exact HSS.out _ (hk5.alloc hk5.size _)) (first | (go_at_call 66; refine (HA.out _ (Below.drew (Below.refl _ _))).mono ?_; rintro e w5 ⟨v', rfl, hO, hk4⟩; obtain ⟨a4, c4, rfl⟩ := hO.form; have hk5 : Below w.heap.size w w5 := Below.trans (Below.drew (Below.refl _ _)) hk4))
  all_goals
    go_wp2_with fail
    go_ret
    exact ⟨_, _, rfl, ⟨hk5.size, at4_new _ _ _ _ _ _ _ rfl, hO.alloc _, HL.out, HT.out⟩, hk5.alloc hk5.size _⟩
/-- What the law keeps: texts of at least so many bytes. -/
theorem quKeep_any {w : World} {ga : Nat} {T : TypeId} {kd N : Int} {vl : Value} (h : At3 T w ga (.int .i64 kd) (.int .i64 N) vl) (s : ByteArray) : Calls Try.prog 65 #[.string s, .pointer (some ⟨ga, 0, none⟩)] w fun e w' => e = .returned (.bool (decide (N ≤ (s.size : Int)))) ∧ Below w.heap.size w w' := by
  have HS := Lib.hid (fun W => quTSize_q s W)
  have hc := h.cells.2.1
  clear h
  go_enter Try.func65, Try.ntmps65
  go_wp2_with fail
  go_region_held3 (fun W => W.cell? ⟨ga, 1, none⟩ = some (.int .i64 N)) (first | (go_keep; done) | assumption) (first | (go_at_call 45; refine (HS.out _).mono ?_; rintro e w' ⟨rfl, rfl⟩))
  all_goals
    go_wp2_with fail
    go_ret
    exact ⟨by simp, (Below.refl _ _).drew⟩
theorem quRec2_idle (w : World) :
    CallsD Try.prog 88 #[] .returning w fun e u' w' => e = .returned (.tuple #[]) ∧ u' = .returning ∧ w' = w := by
  refine callsD_of_wpS Try.func88 rfl fun c₀ cs hu => ?_
  apply wpS_region
  simp [wpOpsS, go_sem, recoverD, hu, Try.ntmps88, Exit.thenS]
  cases c₀
  simp_all [bodyPostS, results, Try.results88]
theorem quStays_any {w : World} {ga : Nat} {T : TypeId} {kd N : Int} {vl : Value} (h : At3 T w ga (.int .i64 kd) (.int .i64 N) vl) (s : ByteArray) : Calls Try.prog 80 #[.func (.func 65) #[] #[.pointer (some ⟨ga, 0, none⟩)], .string s] w fun e w' => e = .returned (.bool (decide (N ≤ (s.size : Int)))) ∧ Below w.heap.size w w' := by
  have HK := Lib.hid (quKeep_any h s)
  generalize decide (N ≤ (s.size : Int)) = d at HK ⊢
  clear h
  go_enter_defers Try.func80, Try.ntmps80
  go_wp2_with fail
  refine HK.out.mono ?_
  rintro e w2 ⟨rfl, hk⟩
  have HB := Lib.hid hk
  clear hk
  go_wp2_with fail
  refine leaves_cons (f := 88) (args := #[]) (by simp) (by simp [go_sem]) ?_
  refine (quRec2_idle _).mono ?_
  rintro e u' w'' ⟨rfl, rfl, rfl⟩
  simp [Leaves, settle, results, Try.results80, go_sem, HB.out]
/-- Those that stay. -/
def quKp (N : Int) (l : List ByteArray) : List ByteArray := l.filter fun s => decide (N ≤ (s.size : Int))
theorem quKp_take (N : Int) (l : List ByteArray) (k : Nat) (s : ByteArray) (h : l[k]? = some s) : quKp N (l.take (k + 1)) = quKp N (l.take k) ++ if N ≤ (s.size : Int) then [s] else [] := by
  unfold quKp
  rw [List.take_add_one, h, List.filter_append]
  by_cases hc : N ≤ (s.size : Int)
  · simp [hc]
  · simp [hc]
theorem quKp_len (N : Int) (l : List ByteArray) : (quKp N l).length ≤ l.length := List.length_filter_le _ _
theorem quKp_tot (N : Int) (l : List ByteArray) : quTot (quKp N l) ≤ quTot l := by
  induction l with
  | nil => exact Int.le_refl _
  | cons s l ih =>
    have e : quKp N (s :: l) = if decide (N ≤ (s.size : Int)) = true then s :: quKp N l else quKp N l := by unfold quKp; rw [List.filter_cons]
    rw [e, quTot_cons]
    split
    · rw [quTot_cons]; omega
    · omega
set_option maxRecDepth 100000 in
set_option maxHeartbeats 3200000 in
theorem quFilter_any {w : World} {base gq : Nat} {m b : Int} {v : Value} {l : List ByteArray} (h : QIn w base gq m b v l) {ga : Nat} {T : TypeId} {kd N : Int} {vl : Value} (hA : At3 T w ga (.int .i64 kd) (.int .i64 N) vl) : Calls Try.prog 64 #[.pointer (some ⟨gq, 0, none⟩), .func (.func 65) #[] #[.pointer (some ⟨ga, 0, none⟩)]] w fun e w' => e = .returned (.int .i64 ((l.length : Int) - (quKp N l).length)) ∧ (∃ v', QIn w' base gq m b v' (quKp N l)) ∧ Below base w w' ∧ KeptQ w w' := by
  have HQ := Lib.hid h
  have HA := Lib.hid hA
  obtain ⟨i0, hi, hz0, hz1, hz2⟩ := info_parts info_qtext
  have HSz := Lib.hid quSize_any
  have HKt := Lib.hid (quKp_take N l)
  have HKl := Lib.hid (quKp_len N)
  have HKT : Hid (∀ k, 0 ≤ quTot (quKp N (l.take k)) ∧ quTot (quKp N (l.take k)) ≤ 1073741824) := Lib.hid (fun k => by
    have h1 := quKp_tot N (l.take k)
    have h2 : quTot l = quTot (l.take k) + quTot (l.drop k) := by rw [← quTot_app, List.take_append_drop]
    have h3 := quTot_nn (l.drop k)
    have h4 := h.tot
    have h5 := quC_bd b
    have h6 := quTot_nn (quKp N (l.take k))
    omega)
  have hll : l.length ≤ 1073741824 := by have := h.len; have := quC_bd m; omega
  have hbs := h.bs
  have hbz : base ≤ w.heap.size := by have := h.at4.lt; omega
  obtain ⟨a0, c0, rfl⟩ := h.form
  obtain ⟨_, _, _, _⟩ := h.at4.cells
  clear h hA
  go_enter Try.func64, Try.ntmps64
  go_wp2_with fail
  go_loopw [5, 6, 15] (fun vk sz i wr => ∃ k : Nat, k ≤ l.length ∧ i = .int .i64 k ∧ sz = .int .i64 (quTot (quKp N (l.take k))) ∧ OwnE wr w.heap.size 71 1 vk (quKp N (l.take k)).length (quV (quKp N (l.take k))) ∧ Below w.heap.size w wr) (fun _ _ i _ => l.length - (intOf i).toNat)
  case atStart => exact ⟨0, Nat.zero_le _, rfl, rfl, ownE_nil _ _ _ _, Below.refl _ _⟩
  case round =>
    obtain ⟨k, hk, rfl, rfl, hO, hbw⟩ := hrel
    by_cases hlt : k < l.length
    · obtain ⟨s, hs⟩ : ∃ s, l[k]? = some s := ⟨_, List.getElem?_eq_getElem hlt⟩
      obtain ⟨g, off, cap, e, hc1, hc2, hcl⟩ := (HQ.out.later hbw).own.texts (by omega)
      simp only [Value.slice.injEq, true_and] at e
      obtain ⟨rfl, rfl⟩ := e
      have hcell := hcl k s hs
      have HST := Lib.hid (quStays_any (HA.out.later hbw) s)
      have HK1 := Lib.hid (HKt.out k s hs)
      have HT1 := HKT.out (k + 1)
      have HT0 := HKT.out k
      have hkl : (quKp N (l.take k)).length ≤ k := Nat.le_trans (HKl.out _) (by rw [List.length_take]; omega)
      clear hcl hs
      by_cases hN : N ≤ (s.size : Int)
      · have HK2 : Hid (quKp N (l.take (k + 1)) = quKp N (l.take k) ++ [s]) := Lib.hid (by rw [HK1.out, if_pos hN])
        have HT2 : Hid (quTot (quKp N (l.take (k + 1))) = quTot (quKp N (l.take k)) + s.size) := Lib.hid (by rw [HK2.out, quTot_app]; simp [quTot])
        rw [HT2.out] at HT1
        rw [decide_eq_true hN] at HST
        clear HK1
        have HKV : Hid (quV (quKp N (l.take (k + 1))) = quV (quKp N (l.take k)) ++ [.string s]) := Lib.hid (by rw [HK2.out, quV_app]; rfl)
        have HKN : Hid ((quKp N (l.take (k + 1))).length = (quKp N (l.take k)).length + 1) := Lib.hid (by rw [HK2.out, List.length_append]; rfl)
        generalize quTot (quKp N (l.take k)) = tk at *
        generalize quV (quKp N (l.take k)) = xs at *
        generalize (quKp N (l.take k)).length = nk at *
        have hwk : IntKind.i64.wrap (tk + s.size) = tk + s.size := IntWalk.i64_in _ ⟨by omega, by omega⟩
        go_wp2_with fail
        refine HST.out.mono ?_
        rintro e w3 ⟨rfl, hk3⟩
        have hO3 := hO.later hk3
        have hb3 := hbw.trans (hk3.mono hbw.size)
        clear hO hbw hk3 HST hcell
        go_wp2_with (at_builtin; refine append_atE1 (W := w) rfl (.tmp 22) (.tmp 24) 85 rfl 71 i0 (.string ByteArray.empty) 16 Try.underlying85 hi hz0 hz1 hz2 rfl w.heap.size _ nk xs rfl hO3 (.string s) rfl rfl ?d1 ?d2 hb3.size w.heap.size (Nat.le_refl _) hb3 ?_)
        case d1 => unfold maxLen; omega
        case d2 => omega
        intro v4 w4 hO4 hb4 _ _
        rw [← HKV.out, ← HKN.out] at hO4
        clear hO3 hb3
        go_wp2_with fail
        refine (HSz.out s w4).mono ?_
        rintro e w5 ⟨rfl, hq5⟩
        subst hq5
        go_wp2_with fail
        go_roundw
        case rel => exact ⟨k + 1, by omega, by go_num, by rw [HT2.out], hO4, hb4⟩
        case measure => simp [intOf]; omega
      · have HK2 : Hid (quKp N (l.take (k + 1)) = quKp N (l.take k)) := Lib.hid (by rw [HK1.out, if_neg hN, List.append_nil])
        rw [decide_eq_false hN] at HST
        clear HK1
        go_wp2_with fail
        refine HST.out.mono ?_
        rintro e w3 ⟨rfl, hk3⟩
        have hO3 := hO.later hk3
        have hb3 := hbw.trans (hk3.mono hbw.size)
        clear hO hbw hk3 HST hcell
        go_wp2_with fail
        go_roundw
        case rel => exact ⟨k + 1, by omega, by go_num, by rw [HK2.out], by rw [HK2.out]; exact hO3, hb3⟩
        case measure => simp [intOf]; omega
    · obtain rfl : k = l.length := by omega
      rw [List.take_length] at hO ⊢
      obtain ⟨a5, c5, rfl⟩ := hO.form
      have hQ := HQ.out.later hbw
      have hX := hQ.at4
      have hlen := HKl.out l
      have HKTl := Lib.hid (quKp_tot N l)
      have hne : ∀ k, (Value.slice a5 (quKp N l).length c5).ownBlock = some k → k ≠ gq := fun k hk e => by
        have h1 := (hO.1.lt k hk).1
        have h2 := HQ.out.at4.lt
        omega
      have HP : Hid (∀ W : World, At4 119 W gq (.int .i64 m) (.int .i64 b) (.slice a5 (quKp N l).length c5) (.int .i64 (quTot (quKp N l))) → OwnE W base 71 1 (.slice a5 (quKp N l).length c5) (quKp N l).length (quV (quKp N l)) → QIn W base gq m b (.slice a5 (quKp N l).length c5) (quKp N l)) := Lib.hid (fun W x y => ⟨hbs, x, y, by have := hQ.len; omega, by have := hQ.tot; have := HKTl.out; omega⟩)
      have hOb := hO.base hbz
      have hbw' := hbw.mono hbz
      have hK1 := keptQ_below hbw
      obtain ⟨_, _, _, _⟩ := hX.cells
      obtain ⟨_, _, _, _⟩ := hX.frees
      clear hQ hO hbw HKt HKT HKl HSz HQ HA HKTl
      generalize quTot (quKp N l) = kt at *
      generalize quV (quKp N l) = xs at *
      have HKN : Hid (∃ z, (quKp N l).length = z) := Lib.hid ⟨_, rfl⟩
      obtain ⟨kn, hkn⟩ := HKN.out
      rw [hkn] at hOb HP hlen hne ⊢
      have HKE := Lib.hid hkn
      clear hkn HKN
      have hwd : IntKind.i64.wrap ((l.length : Int) - kn) = (l.length : Int) - kn := IntWalk.i64_in _ ⟨by omega, by omega⟩
      go_upto_region 12 with fail
      have ho := ((Only.refl gq wr).setCell 2 (.slice a5 kn c5)).setCell 3 (.int .i64 kt)
      have hX2 := at4s_set3 (at4s_set2 hX (.slice a5 kn c5)) (.int .i64 kt)
      have hO2 : OwnE ((wr.setCell ⟨gq, 2, none⟩ (.slice a5 kn c5)).setCell ⟨gq, 3, none⟩ (.int .i64 kt)) base 71 1 (.slice a5 kn c5) kn xs := hOb.keep (by rw [ho.size]; exact Nat.le_refl _) (fun k cs hk _ => ho.block k (hne k hk))
      go_wp2_with fail
      go_ret
      exact ⟨by rw [HKE.out]; rfl, ⟨_, HP.out _ hX2 hO2⟩, hbw'.trans (ho.below hbs), hK1.trans (keptQ_only hX ho)⟩
end Go.Proofs.Ytgmggilnhkdceaa
