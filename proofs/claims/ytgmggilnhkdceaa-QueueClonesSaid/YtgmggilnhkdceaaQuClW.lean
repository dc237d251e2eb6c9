/- QueueClones: the walk. -/
import Derived.Test.YtgmggilnhkdceaaQuM
namespace Go.Proofs.Ytgmggilnhkdceaa
open Go.RowKit
set_option linter.unusedVariables false
set_option linter.unusedSimpArgs false
namespace queueClones
set_option maxRecDepth 100000 in
set_option maxHeartbeats 6400000 in
theorem walk (p0 : Option Addr) (len0 cap0 : Nat) (p1 : Option Addr) (len1 cap1 : Nat) (w : World) (wr0 : Recs (quActP w) w p0 len0) (hl0 : len0 ≤ 9223372036854775807) (wr1 : Recs (quActP w) w p1 len1) (hl1 : len1 ≤ 9223372036854775807) :
    Calls Try.prog 11 #[.slice p0 len0 cap0, .slice p1 len1 cap1] w fun e w' => e = .returned (.bool true) ∧ Below w.heap.size w w' := by
  have HACT := Lib.hid (fun (k : Nat) (hk : k < len0) (W : World) (hb : Below w.heap.size w W) => quAct_at wr0 hb hk)
  have HACT1 := Lib.hid (fun (k : Nat) (hk : k < len1) (W : World) (hb : Below w.heap.size w W) => quAct_at wr1 hb hk)
  clear wr0 wr1
  go_enter Try.func11, Try.ntmps11
  go_wp2_with fail
  refine (quAwake_any w).mono ?_
  rintro e wa ⟨rfl, hba⟩
  go_wp2_with fail
  refine (quNew_any 8 60 wa).mono ?_
  rintro e wb ⟨rfl, hQb, hkb⟩
  have hbb := hba.trans (hkb.mono hba.size)
  have hgB : w.heap.size ≤ wa.heap.size := hba.size
  generalize wa.heap.size = gq at hQb hgB hkb ⊢
  go_wp2_with fail
  refine (refQNew_any 8 60 wb).mono ?_
  rintro e wc ⟨rfl, hkc⟩
  have hal : Below wc.heap.size wc (wc.alloc (.cells #[.int .i64 (quC 8), .int .i64 (quC 60), .slice none 0 0] 74)) := (Below.refl _ _).alloc (Nat.le_refl _) _
  have hkd := hkc.trans (hal.mono hkc.size)
  have hQd := hQb.later hkd
  have hbd := hbb.trans (hkd.mono hbb.size)
  have hXd := at3_new 74 wc wc.heap.size (.int .i64 (quC 8)) (.int .i64 (quC 60)) (.slice none 0 0) rfl
  have hgx : gq < wc.heap.size := by have := hQb.at4.lt; have := hkc.size; omega
  go_upto_region 4 with fail
  generalize wc.alloc (.cells #[.int .i64 (quC 8), .int .i64 (quC 60), .slice none 0 0] 74) = wd at hQd hbd hXd ⊢
  generalize wc.heap.size = gx at hXd hgx ⊢
  clear hba hQb hkb hbb hkc hal hkd
  go_wp2_with fail
  go_loopw [8] (fun i wr => ∃ (k : Nat) (l : List ByteArray) (v : Value) (ax : Option Addr) (cx : Nat), k ≤ len0 ∧ k ≤ 20 ∧ i = .int .i64 k ∧ QIn wr gq gq 8 60 v l ∧ At3 74 wr gx (.int .i64 (quC 8)) (.int .i64 (quC 60)) (.slice ax l.length cx) ∧ OwnE wr 0 9 1 (.slice ax l.length cx) l.length (quV l) ∧ Below w.heap.size w wr) (fun i _ => 20 - (intOf i).toNat)
  case atStart => exact ⟨0, [], _, none, 0, Nat.zero_le _, by omega, rfl, hQd, hXd, ownE_nil _ _ _ _, hbd⟩
  case round =>
    obtain ⟨k, l, v, ax, cx, hk, hk20, rfl, hQ, hX, hx, hb⟩ := hrel
    clear hQd hXd hbd
    by_cases hlt : k < len0 ∧ k < 20
    · obtain ⟨hlt, hlt20⟩ := hlt
      obtain ⟨ab, off, rfl, habl, kd, z, es, aL, cL, ha0, ha1, ha2, hrT, hel, hes⟩ := HACT.out k hlt wr hb
      have HDo := Lib.hid (quDo_any hQ.drew hx.drew kd z es aL cL (show ReadsT wr.drew aL es from hrT) hel hes)
      obtain ⟨_, _, _⟩ := hX.cells
      obtain ⟨_, _, _⟩ := hX.frees
      clear hrT hel hes
      go_upto_region 10 with fail
      go_cut [7] (fun y wz => ∃ (l' : List ByteArray) (v' : Value) (ax' : Option Addr) (cx' : Nat), y = .bool true ∧ QIn wz gq gq 8 60 v' l' ∧ At3 74 wz gx (.int .i64 (quC 8)) (.int .i64 (quC 60)) (.slice ax' l'.length cx') ∧ OwnE wz 0 9 1 (.slice ax' l'.length cx') l'.length (quV l') ∧ Below gq wr wz)
      case first =>
        go_region_with (first | (go_at_call 36; refine HDo.out.mono ?_; rintro e w7 ⟨l', v', vx', rfl, hQ7, hx7, hk7, hK7⟩; obtain ⟨ax', cx', rfl⟩ := hx7.form; have hX7 := hX.drew.keptQ hK7 (by decide) (by decide); obtain ⟨_, _, _⟩ := hX7.frees; obtain ⟨_, _, _⟩ := hX7.cells))
        all_goals
          have ho8 := store3_only w7 gx (.int .i64 (quC 8)) (.int .i64 (quC 60)) (.slice ax' l'.length cx')
          have hQ8 := hQ7.onlyG hX7 ho8 (by decide) (by decide)
          have hx8 := hx7.onlyG (x := hX7) ho8 (by decide)
          go_wp2_with fail
          go_meet
          exact ⟨l', v', ax', cx', rfl, hQ8, at3_store hX7 _ _ _, hx8, (((Below.refl gq wr).drew).trans hk7).trans (ho8.below (Nat.le_of_lt hgx))⟩
      case rest =>
      obtain ⟨l', v', ax', cx', rfl, hQ9, hX9, hx9, hk9⟩ := hcut
      rename World => w9
      have hb9 := hb.trans (hk9.mono hgB)
      clear hQ hX hx hb hk9 HDo ha0 ha1 ha2
      go_wp2_with fail
      go_roundw
      case rel => exact ⟨k + 1, l', v', ax', cx', by omega, by omega, by go_num, hQ9, hX9, hx9, hb9⟩
      case measure => simp [intOf]; omega
    · have hend : (k = 20 ∧ k < len0) ∨ k = len0 := by omega
      have HClo : Hid (∀ W, Below wr.heap.size wr W → Calls Try.prog 40 #[.pointer (some ⟨gq, 0, none⟩)] W fun e w' => ∃ gc v', e = .returned (.pointer (some ⟨gc, 0, none⟩)) ∧ QIn w' W.heap.size gc 8 60 v' l ∧ Below W.heap.size W w') := Lib.hid (fun W h => quClone_any (hQ.later h))
      have hsz := hb.size
      have hd1 : (decide (k < len0) && decide (k < 20)) = false := by simp; omega
      obtain ⟨_, _, _⟩ := hX.cells
      obtain ⟨kk, hkk⟩ : ∃ z : Nat, z = k := ⟨_, rfl⟩
      have hXal := (hX.alloc (.cells #[.int .i64 0, .int .i64 0, .slice none 0 0] 74)).drew
      rcases hend with ⟨hend, hend2⟩ | hend
      · subst hend
        go_upto_region 13 with fail
        go_cut [9, 10] (fun y z wz => ∃ gc gy v2, y = .pointer (some ⟨gc, 0, none⟩) ∧ z = .pointer (some ⟨gy, 0, none⟩) ∧ wr.heap.size ≤ gy ∧ QIn wz wr.heap.size gc 8 60 v2 l ∧ At3 74 wz gy (.int .i64 (quC 8)) (.int .i64 (quC 60)) (.slice ax l.length cx) ∧ Below wr.heap.size wr wz)
        case first =>
          obtain ⟨_, _, _⟩ := hXal.cells
          go_region_with (first | (go_at_call 40; first | (refine (HClo.out wr.drew (Below.drew (Below.refl _ _))).mono ?_; rintro e w7 ⟨gc, v2, rfl, hQ7, hk7'⟩; have hk7 : Below wr.heap.size wr w7 := Below.trans (Below.drew (Below.refl _ _)) hk7'; have hQ7b := hQ7.base (show wr.heap.size ≤ wr.drew.heap.size from Nat.le_refl _); have hX7 := hX.later hk7; obtain ⟨_, _, _⟩ := hX7.cells; obtain ⟨_, _, _⟩ := (hX7.alloc (.cells #[.int .i64 0, .int .i64 0, .slice none 0 0] 74)).cells) | (refine (HClo.out (wr.alloc (.cells #[.int .i64 0, .int .i64 0, .slice none 0 0] 74)).drew ((Below.refl _ _).alloc (Nat.le_refl _) _).drew).mono ?_; rintro e w7 ⟨gc, v2, rfl, hQ7, hk7'⟩; have hk7 : Below wr.heap.size wr w7 := Below.trans ((Below.refl wr.heap.size wr).alloc (Nat.le_refl _) (.cells #[.int .i64 0, .int .i64 0, .slice none 0 0] 74)).drew (hk7'.mono (by simp)); have hQ7b := hQ7.base (show wr.heap.size ≤ (wr.alloc (.cells #[.int .i64 0, .int .i64 0, .slice none 0 0] 74)).drew.heap.size by simp); have hX7 := hX.later hk7; obtain ⟨_, _, _⟩ := hX7.cells; have hN7 := (at3_new 74 wr wr.heap.size (.int .i64 0) (.int .i64 0) (.slice none 0 0) rfl).drew.later hk7'; obtain ⟨_, _, _⟩ := hN7.cells; obtain ⟨_, _, _⟩ := hN7.frees)))
          all_goals
            go_wp2_with fail
            go_meet
            first
            | exact ⟨gc, w7.heap.size, v2, rfl, rfl, hk7.size, hQ7b.later ((Below.refl _ _).alloc (Nat.le_refl _) _), at3_new _ _ _ _ _ _ rfl, hk7.alloc hk7.size _⟩
            | exact ⟨gc, wr.heap.size, v2, rfl, rfl, Nat.le_refl _, hQ7b.onlyG hN7 (store3_only w7 wr.heap.size _ _ _) (by decide) (by decide), at3_store hN7 _ _ _, hk7.trans ((store3_only w7 wr.heap.size _ _ _).below (Nat.le_refl _))⟩
        case rest =>
        obtain ⟨gc, gy, v2, rfl, rfl, hgy, hQ5, hX5, hk9⟩ := hcut
        rename World => w5
        have hx5 := hx.later hk9
        clear HClo hXal hd1 hkk HACT
        obtain ⟨N, hN⟩ : ∃ N, N = wr.heap.size := ⟨_, rfl⟩
        have HQL : Hid (∀ W, Below N wr W → QIn W gq gq 8 60 v l ∧ At3 74 W gx (.int .i64 (quC 8)) (.int .i64 (quC 60)) (.slice ax l.length cx) ∧ OwnE W 0 9 1 (.slice ax l.length cx) l.length (quV l)) := Lib.hid (fun W h => by rw [hN] at h; exact ⟨hQ.later h, hX.later h, hx.later h⟩)
        rw [← hN] at hgy hQ5 hk9 hsz
        clear hQ hX hx hN
        go_wp2_with fail
        go_loopw [11] (fun i wr => ∃ (k2 : Nat) (l2 : List ByteArray) (v3 : Value) (ay : Option Addr) (cy : Nat), k2 ≤ len1 ∧ k2 ≤ 20 ∧ i = .int .i64 k2 ∧ QIn wr N gc 8 60 v3 l2 ∧ At3 74 wr gy (.int .i64 (quC 8)) (.int .i64 (quC 60)) (.slice ay l2.length cy) ∧ OwnE wr 0 9 1 (.slice ay l2.length cy) l2.length (quV l2) ∧ Below N w5 wr) (fun i _ => 20 - (intOf i).toNat)
        case atStart => exact ⟨0, l, v2, ax, cx, Nat.zero_le _, by omega, rfl, hQ5, hX5, hx5, Below.refl _ _⟩
        case round =>
          obtain ⟨k2, l2, v3, ay, cy, hk2, hk20, rfl, hQs, hXs, hxs, hbs⟩ := hrel
          clear hQ5 hX5 hx5
          have hba := hb.trans ((hk9.trans hbs).mono hsz)
          by_cases hlt2 : k2 < len1 ∧ k2 < 20
          · obtain ⟨hlt2, hlt20⟩ := hlt2
            obtain ⟨ab, off, rfl, habl, kd, z, es, aL, cL, ha0, ha1, ha2, hrT, hel, hes⟩ := HACT1.out k2 hlt2 wr hba
            have HDo := Lib.hid (quDo_any hQs.drew hxs.drew kd z es aL cL (show ReadsT wr.drew aL es from hrT) hel hes)
            obtain ⟨_, _, _⟩ := hXs.cells
            obtain ⟨_, _, _⟩ := hXs.frees
            clear hrT hel hes
            go_upto_region 19 with fail
            go_cut [7] (fun y wz => ∃ (l' : List ByteArray) (v' : Value) (ax' : Option Addr) (cx' : Nat), y = .bool true ∧ QIn wz N gc 8 60 v' l' ∧ At3 74 wz gy (.int .i64 (quC 8)) (.int .i64 (quC 60)) (.slice ax' l'.length cx') ∧ OwnE wz 0 9 1 (.slice ax' l'.length cx') l'.length (quV l') ∧ Below N wr wz)
            case first =>
              go_region_with (first | (go_at_call 36; refine HDo.out.mono ?_; rintro e w7 ⟨l', v', vx', rfl, hQ7, hx7, hk7, hK7⟩; obtain ⟨ax', cx', rfl⟩ := hx7.form; have hX7 := hXs.drew.keptQ hK7 (by decide) (by decide); obtain ⟨_, _, _⟩ := hX7.frees; obtain ⟨_, _, _⟩ := hX7.cells))
              all_goals
                have ho8 := store3_only w7 gy (.int .i64 (quC 8)) (.int .i64 (quC 60)) (.slice ax' l'.length cx')
                have hQ8 := hQ7.onlyG hX7 ho8 (by decide) (by decide)
                have hx8 := hx7.onlyG (x := hX7) ho8 (by decide)
                go_wp2_with fail
                go_meet
                exact ⟨l', v', ax', cx', rfl, hQ8, at3_store hX7 _ _ _, hx8, (((Below.refl N wr).drew).trans hk7).trans (ho8.below hgy)⟩
            case rest =>
            obtain ⟨l', v', ax', cx', rfl, hQ9, hX9, hx9, hkp⟩ := hcut
            rename World => w9
            have hb9 := hbs.trans hkp
            clear hQs hXs hxs hbs HDo ha0 ha1 ha2 hba
            go_wp2_with fail
            go_roundw
            case rel => exact ⟨k2 + 1, l', v', ax', cx', by omega, by omega, by go_num, hQ9, hX9, hx9, hb9⟩
            case measure => simp [intOf]; omega
          · have hend2 : (k2 = 20 ∧ k2 < len1) ∨ k2 = len1 := by omega
            have hkA := hk9.trans hbs
            obtain ⟨hQA, hXA, hxA⟩ := HQL.out _ hkA
            have HI1 := Lib.hid (quIs_any hQA hxA)
            have HI2 : Hid (∀ W, Below wr.heap.size wr W → Calls Try.prog 37 #[.pointer (some ⟨gc, 0, none⟩), .agg #[.int .i64 (quC 8), .int .i64 (quC 60), .slice ay l2.length cy]] W fun e w' => e = .returned (.bool true) ∧ Below W.heap.size W w') := Lib.hid (fun W h => quIs_any (hQs.later h) (hxs.later h))
            clear HQL hQA hxA hkA hbs hb
            obtain ⟨_, _, _⟩ := hXA.cells
            rcases hend2 with ⟨he, he2⟩ | he
            · subst he
              go_wp2_with fail
              refine HI1.out.mono ?_
              rintro e wx ⟨rfl, hkx⟩
              obtain ⟨_, _, _⟩ := (hXs.later hkx).cells
              go_wp2_with fail
              refine (HI2.out _ hkx).mono ?_
              rintro e wy ⟨rfl, hky⟩
              go_wp2_with fail
              go_ret
              exact ⟨by simp, hba.trans ((hkx.trans (hky.mono hkx.size)).mono hba.size)⟩
            · subst he
              go_wp2_with fail
              refine HI1.out.mono ?_
              rintro e wx ⟨rfl, hkx⟩
              obtain ⟨_, _, _⟩ := (hXs.later hkx).cells
              go_wp2_with fail
              refine (HI2.out _ hkx).mono ?_
              rintro e wy ⟨rfl, hky⟩
              go_wp2_with fail
              go_ret
              exact ⟨by simp, hba.trans ((hkx.trans (hky.mono hkx.size)).mono hba.size)⟩
      · subst hend
        go_upto_region 13 with fail
        go_cut [9, 10] (fun y z wz => ∃ gc gy v2, y = .pointer (some ⟨gc, 0, none⟩) ∧ z = .pointer (some ⟨gy, 0, none⟩) ∧ wr.heap.size ≤ gy ∧ QIn wz wr.heap.size gc 8 60 v2 l ∧ At3 74 wz gy (.int .i64 (quC 8)) (.int .i64 (quC 60)) (.slice ax l.length cx) ∧ Below wr.heap.size wr wz)
        case first =>
          obtain ⟨_, _, _⟩ := hXal.cells
          go_region_with (first | (go_at_call 40; first | (refine (HClo.out wr.drew (Below.drew (Below.refl _ _))).mono ?_; rintro e w7 ⟨gc, v2, rfl, hQ7, hk7'⟩; have hk7 : Below wr.heap.size wr w7 := Below.trans (Below.drew (Below.refl _ _)) hk7'; have hQ7b := hQ7.base (show wr.heap.size ≤ wr.drew.heap.size from Nat.le_refl _); have hX7 := hX.later hk7; obtain ⟨_, _, _⟩ := hX7.cells; obtain ⟨_, _, _⟩ := (hX7.alloc (.cells #[.int .i64 0, .int .i64 0, .slice none 0 0] 74)).cells) | (refine (HClo.out (wr.alloc (.cells #[.int .i64 0, .int .i64 0, .slice none 0 0] 74)).drew ((Below.refl _ _).alloc (Nat.le_refl _) _).drew).mono ?_; rintro e w7 ⟨gc, v2, rfl, hQ7, hk7'⟩; have hk7 : Below wr.heap.size wr w7 := Below.trans ((Below.refl wr.heap.size wr).alloc (Nat.le_refl _) (.cells #[.int .i64 0, .int .i64 0, .slice none 0 0] 74)).drew (hk7'.mono (by simp)); have hQ7b := hQ7.base (show wr.heap.size ≤ (wr.alloc (.cells #[.int .i64 0, .int .i64 0, .slice none 0 0] 74)).drew.heap.size by simp); have hX7 := hX.later hk7; obtain ⟨_, _, _⟩ := hX7.cells; have hN7 := (at3_new 74 wr wr.heap.size (.int .i64 0) (.int .i64 0) (.slice none 0 0) rfl).drew.later hk7'; obtain ⟨_, _, _⟩ := hN7.cells; obtain ⟨_, _, _⟩ := hN7.frees)))
          all_goals
            go_wp2_with fail
            go_meet
            first
            | exact ⟨gc, w7.heap.size, v2, rfl, rfl, hk7.size, hQ7b.later ((Below.refl _ _).alloc (Nat.le_refl _) _), at3_new _ _ _ _ _ _ rfl, hk7.alloc hk7.size _⟩
            | exact ⟨gc, wr.heap.size, v2, rfl, rfl, Nat.le_refl _, hQ7b.onlyG hN7 (store3_only w7 wr.heap.size _ _ _) (by decide) (by decide), at3_store hN7 _ _ _, hk7.trans ((store3_only w7 wr.heap.size _ _ _).below (Nat.le_refl _))⟩
        case rest =>
        obtain ⟨gc, gy, v2, rfl, rfl, hgy, hQ5, hX5, hk9⟩ := hcut
        rename World => w5
        have hx5 := hx.later hk9
        clear HClo hXal hd1 hkk HACT
        obtain ⟨N, hN⟩ : ∃ N, N = wr.heap.size := ⟨_, rfl⟩
        have HQL : Hid (∀ W, Below N wr W → QIn W gq gq 8 60 v l ∧ At3 74 W gx (.int .i64 (quC 8)) (.int .i64 (quC 60)) (.slice ax l.length cx) ∧ OwnE W 0 9 1 (.slice ax l.length cx) l.length (quV l)) := Lib.hid (fun W h => by rw [hN] at h; exact ⟨hQ.later h, hX.later h, hx.later h⟩)
        rw [← hN] at hgy hQ5 hk9 hsz
        clear hQ hX hx hN
        go_wp2_with fail
        go_loopw [11] (fun i wr => ∃ (k2 : Nat) (l2 : List ByteArray) (v3 : Value) (ay : Option Addr) (cy : Nat), k2 ≤ len1 ∧ k2 ≤ 20 ∧ i = .int .i64 k2 ∧ QIn wr N gc 8 60 v3 l2 ∧ At3 74 wr gy (.int .i64 (quC 8)) (.int .i64 (quC 60)) (.slice ay l2.length cy) ∧ OwnE wr 0 9 1 (.slice ay l2.length cy) l2.length (quV l2) ∧ Below N w5 wr) (fun i _ => 20 - (intOf i).toNat)
        case atStart => exact ⟨0, l, v2, ax, cx, Nat.zero_le _, by omega, rfl, hQ5, hX5, hx5, Below.refl _ _⟩
        case round =>
          obtain ⟨k2, l2, v3, ay, cy, hk2, hk20, rfl, hQs, hXs, hxs, hbs⟩ := hrel
          clear hQ5 hX5 hx5
          have hba := hb.trans ((hk9.trans hbs).mono hsz)
          by_cases hlt2 : k2 < len1 ∧ k2 < 20
          · obtain ⟨hlt2, hlt20⟩ := hlt2
            obtain ⟨ab, off, rfl, habl, kd, z, es, aL, cL, ha0, ha1, ha2, hrT, hel, hes⟩ := HACT1.out k2 hlt2 wr hba
            have HDo := Lib.hid (quDo_any hQs.drew hxs.drew kd z es aL cL (show ReadsT wr.drew aL es from hrT) hel hes)
            obtain ⟨_, _, _⟩ := hXs.cells
            obtain ⟨_, _, _⟩ := hXs.frees
            clear hrT hel hes
            go_upto_region 19 with fail
            go_cut [7] (fun y wz => ∃ (l' : List ByteArray) (v' : Value) (ax' : Option Addr) (cx' : Nat), y = .bool true ∧ QIn wz N gc 8 60 v' l' ∧ At3 74 wz gy (.int .i64 (quC 8)) (.int .i64 (quC 60)) (.slice ax' l'.length cx') ∧ OwnE wz 0 9 1 (.slice ax' l'.length cx') l'.length (quV l') ∧ Below N wr wz)
            case first =>
              go_region_with (first | (go_at_call 36; refine HDo.out.mono ?_; rintro e w7 ⟨l', v', vx', rfl, hQ7, hx7, hk7, hK7⟩; obtain ⟨ax', cx', rfl⟩ := hx7.form; have hX7 := hXs.drew.keptQ hK7 (by decide) (by decide); obtain ⟨_, _, _⟩ := hX7.frees; obtain ⟨_, _, _⟩ := hX7.cells))
              all_goals
                have ho8 := store3_only w7 gy (.int .i64 (quC 8)) (.int .i64 (quC 60)) (.slice ax' l'.length cx')
                have hQ8 := hQ7.onlyG hX7 ho8 (by decide) (by decide)
                have hx8 := hx7.onlyG (x := hX7) ho8 (by decide)
                go_wp2_with fail
                go_meet
                exact ⟨l', v', ax', cx', rfl, hQ8, at3_store hX7 _ _ _, hx8, (((Below.refl N wr).drew).trans hk7).trans (ho8.below hgy)⟩
            case rest =>
            obtain ⟨l', v', ax', cx', rfl, hQ9, hX9, hx9, hkp⟩ := hcut
            rename World => w9
            have hb9 := hbs.trans hkp
            clear hQs hXs hxs hbs HDo ha0 ha1 ha2 hba
            go_wp2_with fail
            go_roundw
            case rel => exact ⟨k2 + 1, l', v', ax', cx', by omega, by omega, by go_num, hQ9, hX9, hx9, hb9⟩
            case measure => simp [intOf]; omega
          · have hend2 : (k2 = 20 ∧ k2 < len1) ∨ k2 = len1 := by omega
            have hkA := hk9.trans hbs
            obtain ⟨hQA, hXA, hxA⟩ := HQL.out _ hkA
            have HI1 := Lib.hid (quIs_any hQA hxA)
            have HI2 : Hid (∀ W, Below wr.heap.size wr W → Calls Try.prog 37 #[.pointer (some ⟨gc, 0, none⟩), .agg #[.int .i64 (quC 8), .int .i64 (quC 60), .slice ay l2.length cy]] W fun e w' => e = .returned (.bool true) ∧ Below W.heap.size W w') := Lib.hid (fun W h => quIs_any (hQs.later h) (hxs.later h))
            clear HQL hQA hxA hkA hbs hb
            obtain ⟨_, _, _⟩ := hXA.cells
            rcases hend2 with ⟨he, he2⟩ | he
            · subst he
              go_wp2_with fail
              refine HI1.out.mono ?_
              rintro e wx ⟨rfl, hkx⟩
              obtain ⟨_, _, _⟩ := (hXs.later hkx).cells
              go_wp2_with fail
              refine (HI2.out _ hkx).mono ?_
              rintro e wy ⟨rfl, hky⟩
              go_wp2_with fail
              go_ret
              exact ⟨by simp, hba.trans ((hkx.trans (hky.mono hkx.size)).mono hba.size)⟩
            · subst he
              go_wp2_with fail
              refine HI1.out.mono ?_
              rintro e wx ⟨rfl, hkx⟩
              obtain ⟨_, _, _⟩ := (hXs.later hkx).cells
              go_wp2_with fail
              refine (HI2.out _ hkx).mono ?_
              rintro e wy ⟨rfl, hky⟩
              go_wp2_with fail
              go_ret
              exact ⟨by simp, hba.trans ((hkx.trans (hky.mono hkx.size)).mono hba.size)⟩
end queueClones
end Go.Proofs.Ytgmggilnhkdceaa
