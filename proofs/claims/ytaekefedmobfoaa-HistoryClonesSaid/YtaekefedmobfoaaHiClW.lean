/- HistoryClones: the walk. -/
import Derived.Test.YtaekefedmobfoaaHiT
namespace Go.Proofs.Ytaekefedmobfoaa
open Go.RowKit
set_option linter.unusedVariables false
set_option linter.unusedSimpArgs false
namespace historyClones
set_option maxRecDepth 100000 in
set_option maxHeartbeats 12800000 in
theorem walk (p0 : Option Addr) (len0 cap0 : Nat) (p1 : Option Addr) (len1 cap1 : Nat) (w : World) (wr0 : Recs hiActQ w p0 len0) (hl0 : len0 ≤ 9223372036854775807) (wr1 : Recs hiActQ w p1 len1) (hl1 : len1 ≤ 9223372036854775807) :
    Calls Try.prog 6 #[.slice p0 len0 cap0, .slice p1 len1 cap1] w fun e w' => e = .returned (.bool true) ∧ Below w.heap.size w w' := by
  have HACT := Lib.hid (fun (k : Nat) (hk : k < len0) (W : World) (hb : Below w.heap.size w W) => hiActQ_at wr0 hb hk)
  have HACT1 := Lib.hid (fun (k : Nat) (hk : k < len1) (W : World) (hb : Below w.heap.size w W) => hiActQ_at wr1 hb hk)
  clear wr0 wr1
  go_enter Try.func6, Try.ntmps6
  go_wp2_with fail
  refine (hiAwake_any w).mono ?_
  rintro e wa ⟨rfl, hba⟩
  go_wp2_with fail
  refine (hiNew_any 5 2 wa).mono ?_
  rintro e wb ⟨rfl, hQb, hkb⟩
  have hbb := hba.trans (hkb.mono hba.size)
  have hgB : w.heap.size ≤ wa.heap.size := hba.size
  generalize wa.heap.size = gh at hQb hgB hkb ⊢
  go_wp2_with fail
  refine (refHNew_any 5 2 wb).mono ?_
  rintro e wc ⟨rfl, hkc⟩
  have hal : Below wc.heap.size wc (wc.alloc (.cells #[.int .i64 (hiC 5), .int .i64 (hiT 2), .int .i64 0, .slice none 0 0] 49)) := (Below.refl _ _).alloc (Nat.le_refl _) _
  have hkd := hkc.trans (hal.mono hkc.size)
  have hQd := hQb.later hkd
  have hbd := hbb.trans (hkd.mono hbb.size)
  have hXd := at4_new 49 wc wc.heap.size (.int .i64 (hiC 5)) (.int .i64 (hiT 2)) (.int .i64 0) (.slice none 0 0) rfl
  have hgx : gh < wc.heap.size := by have := hQb.at4.lt; have := hkc.size; omega
  go_upto_region 4 with fail
  generalize wc.alloc (.cells #[.int .i64 (hiC 5), .int .i64 (hiT 2), .int .i64 0, .slice none 0 0] 49) = wd at hQd hbd hXd ⊢
  generalize wc.heap.size = gx at hXd hgx ⊢
  clear hba hQb hkb hbb hkc hal hkd
  go_upto_block 0 with fail
  go_cut [8] (fun y wz => ∃ (l : List HR) (v : Value) (ag : Int) (ax : Option Addr) (cx : Nat), 0 ≤ ag ∧ ag ≤ 30 ∧ HIn wz gh gh 5 2 v l ag ∧ At4 49 wz gx (.int .i64 (hiC 5)) (.int .i64 (hiT 2)) (.int .i64 ag) (.slice ax l.length cx) ∧ OwnE wz 0 125 4 (.slice ax l.length cx) l.length (hiV l) ∧ HiNn l ∧ Below w.heap.size w wz)
  case first =>
    go_wp2_with fail
    go_loopw [8] (fun i wr => ∃ (k : Nat) (l : List HR) (v : Value) (ag : Int) (ax : Option Addr) (cx : Nat), k ≤ len0 ∧ k ≤ 30 ∧ i = .int .i64 k ∧ 0 ≤ ag ∧ ag ≤ k ∧ HIn wr gh gh 5 2 v l ag ∧ At4 49 wr gx (.int .i64 (hiC 5)) (.int .i64 (hiT 2)) (.int .i64 ag) (.slice ax l.length cx) ∧ OwnE wr 0 125 4 (.slice ax l.length cx) l.length (hiV l) ∧ HiNn l ∧ Below w.heap.size w wr) (fun i _ => 30 - (intOf i).toNat)
    case atStart => exact ⟨0, [], _, 0, none, 0, Nat.zero_le _, by omega, rfl, Int.le_refl _, Int.le_refl _, hQd, hXd, ownE_nil _ _ _ _, hiNn_nil, hbd⟩
    case round =>
      obtain ⟨k, l, v, ag, ax, cx, hk, hk30, rfl, hag0, hag1, hQ, hX, hx, hnn, hb⟩ := hrel
      clear hQd hXd hbd
      by_cases hlt : k < len0 ∧ k < 30
      · obtain ⟨hlt, hlt30⟩ := hlt
        obtain ⟨ab, off, rfl, habl, kd, s, p, d, ha0, ha1, ha2, ha3, hd⟩ := HACT.out k hlt wr hb
        have HDo := Lib.hid (hiDo_any hQ.drew hx.drew hnn ⟨hag0, by omega⟩ kd s p d hd)
        have HNn := Lib.hid (hiNn_do hnn (hiC 5) (hiT 2) kd s p d)
        have hNb := hiDoN_bd (hiT 2) kd s p l ag
        generalize hiDoL (hiC 5) (hiT 2) kd s p d l = l' at *
        generalize hiDoN (hiT 2) kd s p l ag = ag' at *
        obtain ⟨_, _, _, _⟩ := hX.cells
        obtain ⟨_, _, _, _⟩ := hX.frees
        clear hnn
        go_upto_region 10 with fail
        go_cut [7] (fun y wz => ∃ (v' : Value) (ax' : Option Addr) (cx' : Nat), y = .bool true ∧ HIn wz gh gh 5 2 v' l' ag' ∧ At4 49 wz gx (.int .i64 (hiC 5)) (.int .i64 (hiT 2)) (.int .i64 ag') (.slice ax' l'.length cx') ∧ OwnE wz 0 125 4 (.slice ax' l'.length cx') l'.length (hiV l') ∧ Below gh wr wz)
        case first =>
          go_region_with (first | (go_at_call 25; refine HDo.out.mono ?_; rintro e w7 ⟨v', vx', rfl, hQ7, hx7, hk7, hK7⟩; obtain ⟨ax', cx', rfl⟩ := hx7.form4; have hX7 := hX.drew.keptH hK7 (by decide) (by decide); obtain ⟨_, _, _, _⟩ := hX7.frees; obtain ⟨_, _, _, _⟩ := hX7.cells))
          all_goals
            have ho8 := put4_only w7 gx (.int .i64 (hiC 5)) (.int .i64 (hiT 2)) (.int .i64 ag') (.slice ax' l'.length cx')
            have hQ8 := hQ7.onlyG hX7 ho8 (by decide) (by decide)
            have hx8 := hx7.onlyH hX7 ho8 (by decide)
            go_wp2_with fail
            go_meet
            exact ⟨v', ax', cx', rfl, hQ8, at4_put hX7 _ _ _ _, hx8, (((Below.refl gh wr).drew).trans hk7).trans (ho8.below (Nat.le_of_lt hgx))⟩
        case rest =>
        obtain ⟨v', ax', cx', rfl, hQ9, hX9, hx9, hk9⟩ := hcut
        rename World => w9
        have hb9 := hb.trans (hk9.mono hgB)
        clear hQ hX hx hb hk9 HDo ha0 ha1 ha2 ha3
        go_wp2_with fail
        go_roundw
        case rel => exact ⟨k + 1, l', v', ag', ax', cx', by omega, by omega, by go_num, by omega, by omega, hQ9, hX9, hx9, HNn.out, hb9⟩
        case measure => simp [intOf]; omega
      · have hend : (k = 30 ∧ k < len0) ∨ k = len0 := by omega
        have hag30 : ag ≤ 30 := by omega
        rcases hend with ⟨hend, hend2⟩ | hend
        · subst hend
          go_wp2_with fail
          go_meet
          exact ⟨l, v, ag, ax, cx, hag0, hag30, hQ, hX, hx, hnn, hb⟩
        · subst hend
          go_wp2_with fail
          go_meet
          exact ⟨l, v, ag, ax, cx, hag0, hag30, hQ, hX, hx, hnn, hb⟩
  case rest =>
  obtain ⟨l, v, ag, ax, cx, hag0, hag30, hQ, hX, hx, hnn, hb⟩ := hcut
  rename World => wr
  clear hQd hXd hbd HACT
  have HClo : Hid (∀ W, Below wr.heap.size wr W → Calls Try.prog 28 #[.pointer (some ⟨gh, 0, none⟩)] W fun e w' => ∃ gc v', e = .returned (.pointer (some ⟨gc, 0, none⟩)) ∧ HIn w' W.heap.size gc 5 2 v' l ag ∧ Below W.heap.size W w') := Lib.hid (fun W h => hiClone_any (hQ.later h))
  have hsz := hb.size
  obtain ⟨_, _, _, _⟩ := hX.cells
  have hXal := (hX.alloc (.cells #[.int .i64 0, .int .i64 0, .int .i64 0, .slice none 0 0] 49)).drew
  go_upto_region 13 with fail
  go_cut [9, 10] (fun y z wz => ∃ gc gy v2, y = .pointer (some ⟨gc, 0, none⟩) ∧ z = .pointer (some ⟨gy, 0, none⟩) ∧ wr.heap.size ≤ gy ∧ HIn wz wr.heap.size gc 5 2 v2 l ag ∧ At4 49 wz gy (.int .i64 (hiC 5)) (.int .i64 (hiT 2)) (.int .i64 ag) (.slice ax l.length cx) ∧ Below wr.heap.size wr wz)
  case first =>
    obtain ⟨_, _, _, _⟩ := hXal.cells
    have hA := Below.drew (Below.refl wr.heap.size wr)
    have hB : Below wr.heap.size wr (wr.alloc (.cells #[.int .i64 0, .int .i64 0, .int .i64 0, .slice none 0 0] 49)).drew := ((Below.refl _ _).alloc (Nat.le_refl _) _).drew
    go_region_law (first | (go_simp; go_at_call 28; refine (HClo.out _ ?hb).mono ?_; (case hb => first | with_reducible exact hA | with_reducible exact hB | fail); rintro e w7 ⟨gc, v2, rfl, hQ7, hk7'⟩; first | (have hq : Below wr.drew.heap.size wr.drew w7 := (by with_reducible exact hk7'); have hk7 : Below wr.heap.size wr w7 := Below.trans hA hq; clear hq hk7'; have hQ7b := hQ7.base (show wr.heap.size ≤ wr.drew.heap.size from Nat.le_refl _); have hX7 := hX.later hk7; obtain ⟨_, _, _, _⟩ := hX7.cells; obtain ⟨_, _, _, _⟩ := (hX7.alloc (.cells #[.int .i64 0, .int .i64 0, .int .i64 0, .slice none 0 0] 49)).cells) | (have hq : Below (wr.alloc (.cells #[.int .i64 0, .int .i64 0, .int .i64 0, .slice none 0 0] 49)).drew.heap.size (wr.alloc (.cells #[.int .i64 0, .int .i64 0, .int .i64 0, .slice none 0 0] 49)).drew w7 := (by with_reducible exact hk7'); have hk7 : Below wr.heap.size wr w7 := Below.trans hB (hq.mono (by simp)); have hQ7b := hQ7.base (show wr.heap.size ≤ (wr.alloc (.cells #[.int .i64 0, .int .i64 0, .int .i64 0, .slice none 0 0] 49)).drew.heap.size by simp); have hX7 := hX.later hk7; obtain ⟨_, _, _, _⟩ := hX7.cells; have hN7 := (at4_new 49 wr wr.heap.size (.int .i64 0) (.int .i64 0) (.int .i64 0) (.slice none 0 0) rfl).drew.later hq; clear hk7'; obtain ⟨_, _, _, _⟩ := hN7.cells; obtain ⟨_, _, _, _⟩ := hN7.frees)))
    all_goals
      go_wp2_with fail
      go_meet
      first
      | (have _hn := hN7; exact ⟨gc, wr.heap.size, v2, rfl, rfl, Nat.le_refl _, hQ7b.onlyG hN7 (put4_only w7 wr.heap.size _ _ _ _) (by decide) (by decide), at4_put hN7 _ _ _ _, hk7.trans ((put4_only w7 wr.heap.size _ _ _ _).below (Nat.le_refl _))⟩)
      | (exact ⟨gc, w7.heap.size, v2, rfl, rfl, hk7.size, hQ7b.later ((Below.refl _ _).alloc (Nat.le_refl _) _), at4_new _ _ _ _ _ _ _ rfl, hk7.alloc hk7.size _⟩)
  case rest =>
  obtain ⟨gc, gy, v2, rfl, rfl, hgy, hQ5, hX5, hk9⟩ := hcut
  rename World => w5
  have hx5 := hx.later hk9
  clear HClo hXal
  obtain ⟨N, hN⟩ : ∃ N, N = wr.heap.size := ⟨_, rfl⟩
  have HQL : Hid (∀ W, Below N wr W → HIn W gh gh 5 2 v l ag ∧ At4 49 W gx (.int .i64 (hiC 5)) (.int .i64 (hiT 2)) (.int .i64 ag) (.slice ax l.length cx) ∧ OwnE W 0 125 4 (.slice ax l.length cx) l.length (hiV l)) := Lib.hid (fun W h => by rw [hN] at h; exact ⟨hQ.later h, hX.later h, hx.later h⟩)
  rw [← hN] at hgy hQ5 hk9 hsz
  clear hQ hX hx hN
  go_wp2_with fail
  go_loopw [11] (fun i wr => ∃ (k2 : Nat) (l2 : List HR) (v3 : Value) (ag2 : Int) (ay : Option Addr) (cy : Nat), k2 ≤ len1 ∧ k2 ≤ 20 ∧ i = .int .i64 k2 ∧ 0 ≤ ag2 ∧ ag2 ≤ 30 + k2 ∧ HIn wr N gc 5 2 v3 l2 ag2 ∧ At4 49 wr gy (.int .i64 (hiC 5)) (.int .i64 (hiT 2)) (.int .i64 ag2) (.slice ay l2.length cy) ∧ OwnE wr 0 125 4 (.slice ay l2.length cy) l2.length (hiV l2) ∧ HiNn l2 ∧ Below N w5 wr) (fun i _ => 20 - (intOf i).toNat)
  case atStart => exact ⟨0, l, v2, ag, ax, cx, Nat.zero_le _, by omega, rfl, hag0, by omega, hQ5, hX5, hx5, hnn, Below.refl _ _⟩
  case round =>
    obtain ⟨k2, l2, v3, ag2, ay, cy, hk2, hk20, rfl, hag20, hag21, hQs, hXs, hxs, hnn2, hbs⟩ := hrel
    clear hQ5 hX5 hx5
    have hba := hb.trans ((hk9.trans hbs).mono hsz)
    by_cases hlt2 : k2 < len1 ∧ k2 < 20
    · obtain ⟨hlt2, hlt20⟩ := hlt2
      obtain ⟨ab, off, rfl, habl, kd, s, p, d, ha0, ha1, ha2, ha3, hd⟩ := HACT1.out k2 hlt2 wr hba
      have HDo := Lib.hid (hiDo_any hQs.drew hxs.drew hnn2 ⟨hag20, by omega⟩ kd s p d hd)
      have HNn := Lib.hid (hiNn_do hnn2 (hiC 5) (hiT 2) kd s p d)
      have hNb := hiDoN_bd (hiT 2) kd s p l2 ag2
      generalize hiDoL (hiC 5) (hiT 2) kd s p d l2 = l' at *
      generalize hiDoN (hiT 2) kd s p l2 ag2 = ag' at *
      obtain ⟨_, _, _, _⟩ := hXs.cells
      obtain ⟨_, _, _, _⟩ := hXs.frees
      clear hnn2
      go_upto_region 19 with fail
      go_cut [7] (fun y wz => ∃ (v' : Value) (ax' : Option Addr) (cx' : Nat), y = .bool true ∧ HIn wz N gc 5 2 v' l' ag' ∧ At4 49 wz gy (.int .i64 (hiC 5)) (.int .i64 (hiT 2)) (.int .i64 ag') (.slice ax' l'.length cx') ∧ OwnE wz 0 125 4 (.slice ax' l'.length cx') l'.length (hiV l') ∧ Below N wr wz)
      case first =>
        go_region_with (first | (go_at_call 25; refine HDo.out.mono ?_; rintro e w7 ⟨v', vx', rfl, hQ7, hx7, hk7, hK7⟩; obtain ⟨ax', cx', rfl⟩ := hx7.form4; have hX7 := hXs.drew.keptH hK7 (by decide) (by decide); obtain ⟨_, _, _, _⟩ := hX7.frees; obtain ⟨_, _, _, _⟩ := hX7.cells))
        all_goals
          have ho8 := put4_only w7 gy (.int .i64 (hiC 5)) (.int .i64 (hiT 2)) (.int .i64 ag') (.slice ax' l'.length cx')
          have hQ8 := hQ7.onlyG hX7 ho8 (by decide) (by decide)
          have hx8 := hx7.onlyH hX7 ho8 (by decide)
          go_wp2_with fail
          go_meet
          exact ⟨v', ax', cx', rfl, hQ8, at4_put hX7 _ _ _ _, hx8, (((Below.refl N wr).drew).trans hk7).trans (ho8.below hgy)⟩
      case rest =>
      obtain ⟨v', ax', cx', rfl, hQ9, hX9, hx9, hkp⟩ := hcut
      rename World => w9
      have hb9 := hbs.trans hkp
      clear hQs hXs hxs hbs HDo ha0 ha1 ha2 ha3 hba
      go_wp2_with fail
      go_roundw
      case rel => exact ⟨k2 + 1, l', v', ag', ax', cx', by omega, by omega, by go_num, by omega, by omega, hQ9, hX9, hx9, HNn.out, hb9⟩
      case measure => simp [intOf]; omega
    · have hend2 : (k2 = 20 ∧ k2 < len1) ∨ k2 = len1 := by omega
      have hkA := hk9.trans hbs
      obtain ⟨hQA, hXA, hxA⟩ := HQL.out _ hkA
      have HI1 := Lib.hid (hiIs_any (hiC 5) (hiT 2) hQA hxA)
      have HI2 : Hid (∀ W, Below wr.heap.size wr W → Calls Try.prog 26 #[.pointer (some ⟨gc, 0, none⟩), .agg #[.int .i64 (hiC 5), .int .i64 (hiT 2), .int .i64 ag2, .slice ay l2.length cy]] W fun e w' => e = .returned (.bool true) ∧ Below W.heap.size W w') := Lib.hid (fun W h => hiIs_any (hiC 5) (hiT 2) (hQs.later h) (hxs.later h))
      clear HQL hQA hxA hkA hbs hb
      obtain ⟨_, _, _, _⟩ := hXA.cells
      rcases hend2 with ⟨he, he2⟩ | he
      · subst he
        go_wp2_with fail
        refine HI1.out.mono ?_
        rintro e wx ⟨rfl, hkx⟩
        obtain ⟨_, _, _, _⟩ := (hXs.later hkx).cells
        go_wp2_with fail
        refine (HI2.out _ hkx).mono ?_
        rintro e wy ⟨rfl, hky⟩
        go_wp2_with fail
        go_ret
        exact ⟨by simp, hba.trans ((hkx.trans (hky.mono hkx.size)).mono hba.size)⟩
      · subst he
        go_wp2_with fail
        refine HI1.out.mono ?_
        rintro e wx ⟨rfl, hkx⟩
        obtain ⟨_, _, _, _⟩ := (hXs.later hkx).cells
        go_wp2_with fail
        refine (HI2.out _ hkx).mono ?_
        rintro e wy ⟨rfl, hky⟩
        go_wp2_with fail
        go_ret
        exact ⟨by simp, hba.trans ((hkx.trans (hky.mono hkx.size)).mono hba.size)⟩
end historyClones
end Go.Proofs.Ytaekefedmobfoaa
