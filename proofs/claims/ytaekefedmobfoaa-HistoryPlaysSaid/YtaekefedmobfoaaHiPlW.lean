/- HistoryPlays: the walk. -/
import Derived.Test.YtaekefedmobfoaaHiT
namespace Go.Proofs.Ytaekefedmobfoaa
open Go.RowKit
set_option linter.unusedVariables false
set_option linter.unusedSimpArgs false
namespace historyPlays
set_option maxRecDepth 100000 in
set_option maxHeartbeats 6400000 in
theorem walk (a0 a1 : Int) (p2 : Option Addr) (len2 cap2 : Nat) (w0 : (Lit.int .i64 a0).wf = true) (w1 : (Lit.int .i64 a1).wf = true) (w : World) (wr2 : Recs hiActQ w p2 len2) (hl : len2 ≤ 9223372036854775807) :
    Calls Try.prog 5 #[.int .i64 a0, .int .i64 a1, .slice p2 len2 cap2] w fun e w' => e = .returned (.bool true) ∧ Below w.heap.size w w' := by
  clear w0 w1
  have HACT := Lib.hid (fun (k : Nat) (hk : k < len2) (W : World) (hb : Below w.heap.size w W) => hiActQ_at wr2 hb hk)
  clear wr2
  have hCa := hiC_alt a0
  go_enter Try.func5, Try.ntmps5
  go_wp2_with fail
  refine (hiAwake_any w).mono ?_
  rintro e wa ⟨rfl, hba⟩
  go_wp2_with fail
  refine (hiNew_any a0 a1 wa).mono ?_
  rintro e wb ⟨rfl, hQb, hkb⟩
  have hbb := hba.trans (hkb.mono hba.size)
  have hgB : w.heap.size ≤ wa.heap.size := hba.size
  generalize wa.heap.size = gh at hQb hgB hkb ⊢
  go_wp2_with fail
  refine (refHNew_any a0 a1 wb).mono ?_
  rintro e wc ⟨rfl, hkc⟩
  have hal : Below wc.heap.size wc (wc.alloc (.cells #[.int .i64 (hiC a0), .int .i64 (hiT a1), .int .i64 0, .slice none 0 0] 49)) := (Below.refl _ _).alloc (Nat.le_refl _) _
  have hkd := hkc.trans (hal.mono hkc.size)
  have hQd := hQb.later hkd
  have hbd := hbb.trans (hkd.mono hbb.size)
  have hXd := at4_new 49 wc wc.heap.size (.int .i64 (hiC a0)) (.int .i64 (hiT a1)) (.int .i64 0) (.slice none 0 0) rfl
  have hgx : gh < wc.heap.size := by have := hQb.at4.lt; have := hkc.size; omega
  go_upto_region 4 with fail
  generalize wc.alloc (.cells #[.int .i64 (hiC a0), .int .i64 (hiT a1), .int .i64 0, .slice none 0 0] 49) = wd at hQd hbd hXd ⊢
  generalize wc.heap.size = gx at hXd hgx ⊢
  clear hba hQb hkb hbb hkc hal hkd
  go_wp2_with fail
  go_loopw [10] (fun i wr => ∃ (k : Nat) (l : List HR) (v : Value) (ag : Int) (ax : Option Addr) (cx : Nat), k ≤ len2 ∧ k ≤ 60 ∧ i = .int .i64 k ∧ 0 ≤ ag ∧ ag ≤ k ∧ HIn wr gh gh a0 a1 v l ag ∧ At4 49 wr gx (.int .i64 (hiC a0)) (.int .i64 (hiT a1)) (.int .i64 ag) (.slice ax l.length cx) ∧ OwnE wr 0 125 4 (.slice ax l.length cx) l.length (hiV l) ∧ HiNn l ∧ Below w.heap.size w wr) (fun i _ => 60 - (intOf i).toNat)
  case atStart => exact ⟨0, [], _, 0, none, 0, Nat.zero_le _, by omega, rfl, Int.le_refl _, Int.le_refl _, hQd, hXd, ownE_nil _ _ _ _, hiNn_nil, hbd⟩
  case round =>
    obtain ⟨k, l, v, ag, ax, cx, hk, hk60, rfl, hag0, hag1, hQ, hX, hx, hnn, hb⟩ := hrel
    clear hQd hXd hbd
    by_cases hlt : k < len2 ∧ k < 60
    · obtain ⟨hlt, hlt60⟩ := hlt
      obtain ⟨ab, off, rfl, habl, kd, s, p, d, ha0, ha1, ha2, ha3, hd⟩ := HACT.out k hlt wr hb
      have HDo := Lib.hid (hiDo_any hQ.drew hx.drew hnn ⟨hag0, by omega⟩ kd s p d hd)
      have HNn := Lib.hid (hiNn_do hnn (hiC a0) (hiT a1) kd s p d)
      have hNb := hiDoN_bd (hiT a1) kd s p l ag
      generalize hiDoL (hiC a0) (hiT a1) kd s p d l = l' at *
      generalize hiDoN (hiT a1) kd s p l ag = ag' at *
      obtain ⟨_, _, _, _⟩ := hX.cells
      obtain ⟨_, _, _, _⟩ := hX.frees
      clear hnn
      go_upto_region 10 with fail
      go_cut [9] (fun y wz => ∃ (v' : Value) (ax' : Option Addr) (cx' : Nat), y = .bool true ∧ HIn wz gh gh a0 a1 v' l' ag' ∧ At4 49 wz gx (.int .i64 (hiC a0)) (.int .i64 (hiT a1)) (.int .i64 ag') (.slice ax' l'.length cx') ∧ OwnE wz 0 125 4 (.slice ax' l'.length cx') l'.length (hiV l') ∧ Below gh wr wz)
      case first =>
        go_region_with (first | (go_at_call 25; refine HDo.out.mono ?_; rintro e w7 ⟨v', vx', rfl, hQ7, hx7, hk7, hK7⟩; obtain ⟨ax', cx', rfl⟩ := hx7.form4; have hX7 := hX.drew.keptH hK7 (by decide) (by decide); obtain ⟨_, _, _, _⟩ := hX7.frees; obtain ⟨_, _, _, _⟩ := hX7.cells))
        all_goals
          have ho8 := put4_only w7 gx (.int .i64 (hiC a0)) (.int .i64 (hiT a1)) (.int .i64 ag') (.slice ax' l'.length cx')
          have hQ8 := hQ7.onlyG hX7 ho8 (by decide) (by decide)
          have hx8 := hx7.onlyH hX7 ho8 (by decide)
          go_wp2_with fail
          go_meet
          exact ⟨v', ax', cx', rfl, hQ8, at4_put hX7 _ _ _ _, hx8, (((Below.refl gh wr).drew).trans hk7).trans (ho8.below (Nat.le_of_lt hgx))⟩
      case rest =>
      obtain ⟨v', ax', cx', rfl, hQ9, hX9, hx9, hk9⟩ := hcut
      rename World => w9
      have hb9 := hb.trans (hk9.mono hgB)
      have hc1 := hQ9.len
      have HIs := Lib.hid (hiIs_any (hiC a0) (hiT a1) hQ9 hx9)
      have HLn := Lib.hid (fun W (h : Below w9.heap.size w9 W) => hiLen_q (hQ9.later h))
      have hd1 : decide (hiC a0 < (l'.length : Int)) = false := by simp; omega
      obtain ⟨_, _, _, _⟩ := hX9.cells
      clear hQ hX hx hb hk9 HDo hc1 ha0 ha1 ha2 ha3
      go_upto_region 11 with fail
      go_wp2_with fail
      refine HIs.out.mono ?_
      rintro e wz ⟨rfl, hkz⟩
      go_wp2_with fail
      refine (HLn.out wz hkz).mono ?_
      rintro e wz2 ⟨rfl, hqz⟩
      subst hqz
      have hQz := hQ9.later hkz
      have hXz := hX9.later hkz
      have hxz := hx9.later hkz
      have hbz := hb9.trans (hkz.mono hb9.size)
      clear hQ9 hX9 hx9 hb9 hkz HIs HLn
      go_wp2_with fail
      go_roundw
      case rel => exact ⟨k + 1, l', v', ag', ax', cx', by omega, by omega, by go_num, by omega, by omega, hQz, hXz, hxz, HNn.out, hbz⟩
      case measure => simp [intOf]; omega
    · by_cases hk1 : k < len2
      · have hk2 : k = 60 := by omega
        subst hk2
        go_wp2_with fail
        go_ret
        exact ⟨rfl, hb⟩
      · have hk2 : k = len2 := by omega
        subst hk2
        go_wp2_with fail
        go_ret
        exact ⟨rfl, hb⟩
end historyPlays
end Go.Proofs.Ytaekefedmobfoaa
