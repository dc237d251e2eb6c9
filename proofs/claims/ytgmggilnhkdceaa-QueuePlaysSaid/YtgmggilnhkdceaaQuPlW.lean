/- QueuePlays: the walk. -/
import Derived.Test.YtgmggilnhkdceaaQuM
namespace Go.Proofs.Ytgmggilnhkdceaa
open Go.RowKit
set_option linter.unusedVariables false
set_option linter.unusedSimpArgs false
namespace queuePlays
set_option maxRecDepth 100000 in
set_option maxHeartbeats 6400000 in
theorem walk (a0 a1 : Int) (p2 : Option Addr) (len2 cap2 : Nat) (w0 : (Lit.int .i64 a0).wf = true) (w1 : (Lit.int .i64 a1).wf = true) (w : World) (wr2 : Recs (quActP w) w p2 len2) (hl : len2 ≤ 9223372036854775807) :
    Calls Try.prog 10 #[.int .i64 a0, .int .i64 a1, .slice p2 len2 cap2] w fun e w' => e = .returned (.bool true) ∧ Below w.heap.size w w' := by
  clear w0 w1
  have HACT := Lib.hid (fun (k : Nat) (hk : k < len2) (W : World) (hb : Below w.heap.size w W) => quAct_at wr2 hb hk)
  clear wr2
  go_enter Try.func10, Try.ntmps10
  go_wp2_with fail
  refine (quAwake_any w).mono ?_
  rintro e wa ⟨rfl, hba⟩
  go_wp2_with fail
  refine (quNew_any a0 a1 wa).mono ?_
  rintro e wb ⟨rfl, hQb, hkb⟩
  have hbb := hba.trans (hkb.mono hba.size)
  have hgB : w.heap.size ≤ wa.heap.size := hba.size
  generalize wa.heap.size = gq at hQb hgB hkb ⊢
  go_wp2_with fail
  refine (refQNew_any a0 a1 wb).mono ?_
  rintro e wc ⟨rfl, hkc⟩
  have hal : Below wc.heap.size wc (wc.alloc (.cells #[.int .i64 (quC a0), .int .i64 (quC a1), .slice none 0 0] 74)) := (Below.refl _ _).alloc (Nat.le_refl _) _
  have hkd := hkc.trans (hal.mono hkc.size)
  have hQd := hQb.later hkd
  have hbd := hbb.trans (hkd.mono hbb.size)
  have hXd := at3_new 74 wc wc.heap.size (.int .i64 (quC a0)) (.int .i64 (quC a1)) (.slice none 0 0) rfl
  have hgx : gq < wc.heap.size := by have := hQb.at4.lt; have := hkc.size; omega
  go_upto_region 4 with fail
  generalize wc.alloc (.cells #[.int .i64 (quC a0), .int .i64 (quC a1), .slice none 0 0] 74) = wd at hQd hbd hXd ⊢
  generalize wc.heap.size = gx at hXd hgx ⊢
  clear hba hQb hkb hbb hkc hal hkd
  go_wp2_with fail
  go_loopw [10] (fun i wr => ∃ (k : Nat) (l : List ByteArray) (v : Value) (ax : Option Addr) (cx : Nat), k ≤ len2 ∧ k ≤ 40 ∧ i = .int .i64 k ∧ QIn wr gq gq a0 a1 v l ∧ At3 74 wr gx (.int .i64 (quC a0)) (.int .i64 (quC a1)) (.slice ax l.length cx) ∧ OwnE wr 0 9 1 (.slice ax l.length cx) l.length (quV l) ∧ Below w.heap.size w wr) (fun i _ => 40 - (intOf i).toNat)
  case atStart => exact ⟨0, [], _, none, 0, Nat.zero_le _, by omega, rfl, hQd, hXd, ownE_nil _ _ _ _, hbd⟩
  case round =>
    obtain ⟨k, l, v, ax, cx, hk, hk40, rfl, hQ, hX, hx, hb⟩ := hrel
    clear hQd hXd hbd
    by_cases hlt : k < len2 ∧ k < 40
    · obtain ⟨hlt, hlt40⟩ := hlt
      obtain ⟨ab, off, rfl, habl, kd, z, es, aL, cL, ha0, ha1, ha2, hrT, hel, hes⟩ := HACT.out k hlt wr hb
      have HDo := Lib.hid (quDo_any hQ.drew hx.drew kd z es aL cL (show ReadsT wr.drew aL es from hrT) hel hes)
      obtain ⟨_, _, _⟩ := hX.cells
      obtain ⟨_, _, _⟩ := hX.frees
      clear hrT hel hes
      go_upto_region 10 with fail
      go_cut [9] (fun y wz => ∃ (l' : List ByteArray) (v' : Value) (ax' : Option Addr) (cx' : Nat), y = .bool true ∧ QIn wz gq gq a0 a1 v' l' ∧ At3 74 wz gx (.int .i64 (quC a0)) (.int .i64 (quC a1)) (.slice ax' l'.length cx') ∧ OwnE wz 0 9 1 (.slice ax' l'.length cx') l'.length (quV l') ∧ Below gq wr wz)
      case first =>
        go_region_with (first | (go_at_call 36; refine HDo.out.mono ?_; rintro e w7 ⟨l', v', vx', rfl, hQ7, hx7, hk7, hK7⟩; obtain ⟨ax', cx', rfl⟩ := hx7.form; have hX7 := hX.drew.keptQ hK7 (by decide) (by decide); obtain ⟨_, _, _⟩ := hX7.frees; obtain ⟨_, _, _⟩ := hX7.cells))
        all_goals
          have ho8 := store3_only w7 gx (.int .i64 (quC a0)) (.int .i64 (quC a1)) (.slice ax' l'.length cx')
          have hQ8 := hQ7.onlyG hX7 ho8 (by decide) (by decide)
          have hx8 := hx7.onlyG (x := hX7) ho8 (by decide)
          go_wp2_with fail
          go_meet
          exact ⟨l', v', ax', cx', rfl, hQ8, at3_store hX7 _ _ _, hx8, (((Below.refl gq wr).drew).trans hk7).trans (ho8.below (Nat.le_of_lt hgx))⟩
      case rest =>
      obtain ⟨l', v', ax', cx', rfl, hQ9, hX9, hx9, hk9⟩ := hcut
      rename World => w9
      have hb9 := hb.trans (hk9.mono hgB)
      have hc1 := hQ9.len
      have hc2 := hQ9.tot
      have HIs := Lib.hid (fun W (h : Below w9.heap.size w9 W) => quIs_any (hQ9.later h) (hx9.later h))
      have HLn := Lib.hid (fun W (h : Below w9.heap.size w9 W) => quLen_q (hQ9.later h))
      have HBy := Lib.hid (fun W (h : Below w9.heap.size w9 W) => quBytes_q (hQ9.later h))
      have HSS : Hid (∀ W : World, Below w9.heap.size w9 W → W.cell? ⟨gx, 0, none⟩ = some (.int .i64 (quC a0)) ∧ W.cell? ⟨gx, 1, none⟩ = some (.int .i64 (quC a1)) ∧ W.cell? ⟨gx, 2, none⟩ = some (.slice ax' l'.length cx')) := Lib.hid (fun W hW => (hX9.later hW).cells)
      have hd1 : decide (quC a0 < (l'.length : Int)) = false := by simp; omega
      have hd2 : decide (quC a1 < quTot l') = false := by simp; omega
      clear hQ hX hx hb hk9 HDo hc1 hc2 ha0 ha1 ha2
      obtain ⟨_, _, _⟩ := hX9.cells
      go_upto_region 11 with fail
      go_cut [62] (fun y wz => y = .bool false ∧ Below w9.heap.size w9 wz)
      case first =>
        go_region_held3 (fun W => W.cell? ⟨gx, 0, none⟩ = some (.int .i64 (quC a0)) ∧ W.cell? ⟨gx, 1, none⟩ = some (.int .i64 (quC a1)) ∧ W.cell? ⟨gx, 2, none⟩ = some (.slice ax' l'.length cx')) (first | (go_keep; done) | exact HSS.out _ (Below.drew (Below.refl _ _)) | exact HSS.out _ hk7) (first | (go_at_call 37; refine (HIs.out _ (Below.drew (Below.refl _ _))).mono ?_; rintro e w7 ⟨rfl, hk7'⟩; have hk7 : Below w9.heap.size w9 w7 := Below.trans (Below.drew (Below.refl _ _)) hk7') | (go_at_call 38; refine (HLn.out _ hk7).mono ?_; rintro e w8 ⟨rfl, hq8⟩; subst hq8) | (go_at_call 39; refine (HBy.out _ hk7).mono ?_; rintro e w8 ⟨rfl, hq8⟩; subst hq8))
        all_goals
          go_wp2_with fail
          go_meet
          exact ⟨rfl, hk7⟩
      case rest =>
      obtain ⟨rfl, hkz⟩ := hcut
      rename World => wz
      have hQz := hQ9.later hkz
      have hXz := hX9.later hkz
      have hxz := hx9.later hkz
      have hbz := hb9.trans (hkz.mono hb9.size)
      clear hQ9 hX9 hx9 hb9 hkz HIs HLn HBy HSS hd1 hd2
      go_wp2_with fail
      go_roundw
      case rel => exact ⟨k + 1, l', v', ax', cx', by omega, by omega, by go_num, hQz, hXz, hxz, hbz⟩
      case measure => simp [intOf]; omega
    · by_cases hk1 : k < len2
      · have hk2 : k = 40 := by omega
        subst hk2
        go_wp2_with fail
        go_ret
        exact ⟨rfl, hb⟩
      · have hk2 : k = len2 := by omega
        subst hk2
        go_wp2_with fail
        go_ret
        exact ⟨rfl, hb⟩
end queuePlays
end Go.Proofs.Ytgmggilnhkdceaa
