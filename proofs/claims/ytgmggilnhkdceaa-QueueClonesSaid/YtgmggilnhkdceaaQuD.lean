/- queue: Push of texts for which there is room. -/
import Derived.Test.YtgmggilnhkdceaaQuC
namespace Go.Proofs.Ytgmggilnhkdceaa
open Go.RowKit
set_option linter.unusedVariables false
set_option linter.unusedSimpArgs false
theorem info_qtext : (Try.prog.info? 71).map (fun i => (i.zero, i.size, i.bytes)) = some (some (.string ByteArray.empty), 1, 16) := by kernel_rfl
theorem At4.grownQ {T : TypeId} {W W' : World} {g : Nat} {c0 c1 c2 c3 : Value} {row : Option Nat} (h : At4 T W g c0 c1 c2 c3) (hg : W.grownBy W' row) (hr : row ≠ some g) : At4 T W' g c0 c1 c2 c3 := by
  unfold At4 at h ⊢
  rw [hg.block g (lt_of_block h) (fun e => hr e.symm)]
  exact h
theorem OwnE.form {W : World} {b : Nat} {e : TypeId} {size : Nat} {v : Value} {n : Nat} {xs : List Value} (h : OwnE W b e size v n xs) : ∃ a cap, v = .slice a n cap := by
  rcases h.1.2 with ⟨rfl, e⟩ | ⟨g, off, cap, rfl, _⟩
  · rw [e]; exact ⟨_, _, rfl⟩
  · exact ⟨_, _, rfl⟩
theorem quTot_take (zs : List ByteArray) (k : Nat) (s : ByteArray) (h : zs[k]? = some s) : quTot (zs.take (k + 1)) = quTot (zs.take k) + s.size ∧ quTot (zs.take (k + 1)) ≤ quTot zs := by
  have e : zs.take (k + 1) = zs.take k ++ [s] := by rw [List.take_add_one, h]; rfl
  have e1 : quTot (zs.take (k + 1)) = quTot (zs.take k) + s.size := by rw [e, quTot_app]; simp [quTot]
  refine ⟨e1, ?_⟩
  have e2 : quTot zs = quTot (zs.take (k + 1)) + quTot (zs.drop (k + 1)) := by rw [← quTot_app, List.take_append_drop]
  have := quTot_nn (zs.drop (k + 1))
  omega
set_option maxRecDepth 100000 in
set_option maxHeartbeats 3200000 in
theorem quPush_any {w : World} {base gq : Nat} {m b : Int} {v : Value} {l : List ByteArray} (h : QIn w base gq m b v l) (zs : List ByteArray) (hne : 0 < zs.length) (ab off c : Nat) (hr : ∀ i s, zs[i]? = some s → w.cell? ⟨ab, off + i, none⟩ = some (.string s))
    (f1 : (l.length : Int) + zs.length ≤ quC m) (f2 : quTot l + quTot zs ≤ quC b) :
    Calls Try.prog 42 #[.pointer (some ⟨gq, 0, none⟩), .slice (some ⟨ab, off, none⟩) zs.length c] w fun e w' => e = .returned (.bool true) ∧ (∃ v', QIn w' base gq m b v' (l ++ zs)) ∧ Below base w w' ∧ KeptQ w w' := by
  have HR := Lib.hid (quRoom_q h)
  have HSz := Lib.hid quSize_any
  have hT0 := quTot_nn l
  have hT1 := quTot_nn zs
  have hc1 := quC_bd m
  have hc2 := quC_bd b
  have HTk := Lib.hid (quTot_take zs)
  have HP : Hid (∀ (W : World) (v' : Value), At4 119 W gq (.int .i64 m) (.int .i64 b) v' (.int .i64 (quTot l + quTot zs)) → OwnE W base 71 1 v' (l.length + zs.length) (quV l ++ quV zs) → QIn W base gq m b v' (l ++ zs)) := Lib.hid (fun W v' x y => ⟨h.bs, by rw [quTot_app]; exact x, by rw [quV_app, List.length_append]; exact y, by rw [List.length_append]; omega, by rw [quTot_app]; exact f2⟩)
  obtain ⟨i0, hi, hz0, hz1, hz2⟩ := info_parts info_qtext
  have hroom : (zs.length : Int) ≤ quC m - l.length := by omega
  have hQ := Lib.hid h
  have hrz := Lib.hid hr
  have hl63 : l.length + zs.length ≤ 1073741824 := by omega
  generalize hR : quC b - quTot l = R at HR
  have hRT : quTot zs ≤ R := by omega
  have hRM : R ≤ 1073741824 := by omega
  have hw1 : IntKind.i64.wrap (R - (R - quTot zs)) = quTot zs := by rw [show R - (R - quTot zs) = quTot zs by omega]; exact IntWalk.i64_in _ ⟨by omega, by omega⟩
  have hw2 : IntKind.i64.wrap (quTot l + quTot zs) = quTot l + quTot zs := IntWalk.i64_in _ ⟨by omega, by omega⟩
  generalize hM : quC m - (l.length : Int) = M at HR hroom
  have hMM : ¬ M < (zs.length : Int) := by omega
  have hT3 : 0 ≤ quTot zs := hT1
  have HZ : Hid (quTot (zs.take zs.length) = quTot zs ∧ quTot (zs.take 0) = 0) := Lib.hid ⟨by rw [List.take_length], by simp [quTot]⟩
  have HN : Hid (∀ k, 0 ≤ quTot (zs.take k)) := Lib.hid (fun k => quTot_nn _)
  clear h hr hc1 hc2 hM hR f1 f2 hT0 hT1
  generalize quTot zs = T at *
  go_enter Try.func42, Try.ntmps42
  go_wp2_with fail
  refine HR.out.mono ?_
  rintro e w2 ⟨rfl, hk2⟩
  have hq2 := Lib.hid (hQ.out.later hk2)
  have hr2 : Hid (∀ i s, zs[i]? = some s → w2.cell? ⟨ab, off + i, none⟩ = some (.string s)) := Lib.hid (fun i s e => cell_later hk2 (hrz.out i s e))
  have hb2 := hk2.mono (show base ≤ w.heap.size by have := hQ.out.at4.lt; have := hQ.out.bs; omega)
  have hK2 := keptQ_below hk2
  clear HR hk2 hrz hQ
  go_wp2_with fail
  go_loop [7, 23] (fun f i => ∃ k : Nat, k ≤ zs.length ∧ i = .int .i64 k ∧ f = .int .i64 (R - quTot (zs.take k))) (fun _ i => zs.length - (intOf i).toNat)
  case atStart => exact ⟨0, Nat.zero_le _, rfl, by rw [HZ.out.2, Int.sub_zero]⟩
  case round =>
    obtain ⟨k, hk, rfl, rfl⟩ := hrel
    by_cases hlt : k < zs.length
    · obtain ⟨s, hs⟩ : ∃ s, zs[k]? = some s := ⟨_, List.getElem?_eq_getElem hlt⟩
      have hcell := hr2.out k s hs
      obtain ⟨t1, t2⟩ := HTk.out k s hs
      have t3 := HN.out k
      have HT1 : Hid (quTot (zs.take (k + 1)) = quTot (zs.take k) + s.size) := Lib.hid t1
      generalize quTot (zs.take k) = tk at *
      have hwk : IntKind.i64.wrap (R - tk - s.size) = R - tk - s.size := IntWalk.i64_in _ ⟨by omega, by omega⟩
      have hge : ¬ R - tk < (s.size : Int) := by omega
      clear hs t1 t2 t3
      go_wp2_with fail
      refine (HSz.out s w2).mono ?_
      rintro e w3 ⟨rfl, hq3⟩
      subst hq3
      go_wp2_with fail
      go_round
      case rel => exact ⟨k + 1, by omega, by go_num, by rw [HT1.out]; congr 1; omega⟩
      case measure => simp [intOf]; omega
    · obtain rfl : k = zs.length := by omega
      rw [HZ.out.1]
      have h := hq2.out
      have hX := h.at4
      have hO := h.own
      have hap := h.apart
      have hbs := h.bs
      have hbase : base ≤ w2.heap.size := by have := hX.lt; omega
      have HC0 : Hid (∀ j u, (quV zs)[j]? = some u → w2.cell? ((⟨ab, off, none⟩ : Addr).add j) = some u) := Lib.hid (fun j u hu => by
        unfold quV at hu
        rw [List.getElem?_map] at hu
        obtain ⟨s, hs, rfl⟩ := Option.map_eq_some_iff.1 hu
        rw [Addr.add_lit]
        exact hr2.out j s hs)
      have H1C : Hid (∀ u ∈ quV zs, u.oneCell' = true) := Lib.hid (fun u hu => by
        unfold quV at hu
        obtain ⟨s, _, rfl⟩ := List.mem_map.1 hu
        rfl)
      obtain ⟨_, _, _, _⟩ := hX.cells
      obtain ⟨_, _, _, _⟩ := hX.frees
      have HL0 := Lib.hid (quV_len zs)
      clear h hq2 hr2 HZ HN HTk HSz hRT hRM hMM hroom hT3
      go_wp2_with (at_builtin; refine append_atE _ rfl (.tmp 40) (.tmp 41) 85 rfl 71 i0 (.string ByteArray.empty) 1 16 Try.underlying85 hi hz0 hz1 hz2 rfl (by decide) base v l.length (quV l) rfl hO ⟨ab, off, none⟩ zs.length c (quV zs) rfl ?m0 HC0.out H1C.out ?m1 ?m2 hbase ?_)
      case m0 => exact HL0.out
      case m1 => unfold maxLen; omega
      case m2 => omega
      intro v' w4 hO4 hg4 hf4
      have hX4 := hX.grownQ hg4 hap
      have hne4 : v'.ownBlock ≠ some gq := by
        rcases hf4 with e | ⟨k, e, hk⟩
        · rw [e]; exact hap
        · rw [e]
          intro e2
          cases e2
          have := hX.lt
          omega
      have hb4 : Below base w w4 := hb2.grown hg4 hbase (fun k hk => (hO.1.lt k hk).1)
      have hK4 := hK2.trans (keptQ_row hO.2 hg4)
      clear hX hO hap hg4 hf4 hb2 hK2 HC0 H1C
      obtain ⟨a4, c4, rfl⟩ := hO4.form
      obtain ⟨_, _, _, _⟩ := hX4.cells
      obtain ⟨_, _, _, _⟩ := hX4.frees
      go_upto_region 14 with fail
      have ho5 := (Only.refl gq w4).setCell 2 (.slice a4 (l.length + zs.length) c4)
      have hX5 := at4s_set2 hX4 (.slice a4 (l.length + zs.length) c4)
      have hO5 : OwnE (w4.setCell ⟨gq, 2, none⟩ (.slice a4 (l.length + zs.length) c4)) base 71 1 (.slice a4 (l.length + zs.length) c4) (l.length + zs.length) (quV l ++ quV zs) := hO4.keep (by rw [ho5.size]; exact Nat.le_refl _) (fun k cs hk _ => ho5.block k (fun e => hne4 (by rw [hk, e])))
      have hb5 := hb4.trans (ho5.below hbs)
      have hK5 := hK4.trans (keptQ_only hX4 ho5)
      generalize w4.setCell ⟨gq, 2, none⟩ (.slice a4 (l.length + zs.length) c4) = w5 at hX5 hO5 hb5 hK5 ⊢
      clear ho5 hX4 hO4 hb4 hK4
      obtain ⟨_, _, _, _⟩ := hX5.cells
      obtain ⟨_, _, _, _⟩ := hX5.frees
      go_upto_region 15 with fail
      have ho6 := (Only.refl gq w5).setCell 3 (.int .i64 (quTot l + T))
      have hX6 := at4s_set3 hX5 (.int .i64 (quTot l + T))
      have hO6 : OwnE (w5.setCell ⟨gq, 3, none⟩ (.int .i64 (quTot l + T))) base 71 1 (.slice a4 (l.length + zs.length) c4) (l.length + zs.length) (quV l ++ quV zs) := hO5.keep (by rw [ho6.size]; exact Nat.le_refl _) (fun k cs hk _ => ho6.block k (fun e => hne4 (by rw [hk, e])))
      go_wp2_with fail
      go_ret
      exact ⟨rfl, ⟨_, HP.out _ _ hX6 hO6⟩, hb5.trans (ho6.below hbs), hK5.trans (keptQ_only hX5 ho6)⟩
end Go.Proofs.Ytgmggilnhkdceaa
