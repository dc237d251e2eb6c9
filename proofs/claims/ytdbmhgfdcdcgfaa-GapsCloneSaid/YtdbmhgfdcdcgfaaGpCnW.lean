/- GapsClone: the walk. -/
import Derived.Test.YtdbmhgfdcdcgfaaGpY
import Derived.Test.YtdbmhgfdcdcgfaaGpOfW
namespace Go.Proofs.Ytdbmhgfdcdcgfaa
open Go.RowKit
set_option linter.unusedVariables false
set_option linter.unusedSimpArgs false
namespace gapsClone
set_option maxRecDepth 100000 in
set_option maxHeartbeats 6400000 in
theorem walk (p0 : Option Addr) (len0 cap0 : Nat) (p1 : Option Addr) (len1 cap1 : Nat) (w : World) (w0 : Recs gpActP w p0 len0) (hl0 : len0 ≤ 9223372036854775807) (w1 : Recs gpActP w p1 len1) (hl1 : len1 ≤ 9223372036854775807) :
    Calls Try.prog 4 #[.slice p0 len0 cap0, .slice p1 len1 cap1] w fun e w' => e = .returned (.bool true) ∧ Below w.heap.size w w' := by
  have HACT := Lib.hid (fun (k : Nat) (hk : k < len0) (W : World) (hb : Below w.heap.size w W) => gpAct_at w0 hb hk)
  have HACT1 := Lib.hid (fun (k : Nat) (hk : k < len1) (W : World) (hb : Below w.heap.size w W) => gpAct_at w1 hb hk)
  clear w0 w1
  go_enter Try.func4, Try.ntmps4
  go_wp2_with fail
  refine (gpAwake_any w).mono ?_
  rintro e wb ⟨rfl, hbb⟩
  have hXa := at4_new 23 wb wb.heap.size (.int .i64 6) (.int .i64 2) (.int .i64 1) (.int .i64 2) rfl
  have hb1 := hbb.alloc hbb.size (.cells #[.int .i64 6, .int .i64 2, .int .i64 1, .int .i64 2] 23)
  go_upto_region 4 with fail
  generalize wb.alloc (.cells #[.int .i64 6, .int .i64 2, .int .i64 1, .int .i64 2] 23) = wa at hXa hb1 ⊢
  generalize wb.heap.size = g0 at hXa ⊢
  clear hbb
  have hA : Below wa.heap.size wa wa.drew := (Below.refl _ _).drew
  have hB : Below wa.heap.size wa (wa.alloc (.cells #[.int .i64 0, .int .i64 0, .int .i64 0, .int .i64 0, .slice none 0 0, .bool false, .int .i64 0, .int .i64 0] 31)).drew := ((Below.refl _ _).alloc (Nat.le_refl _) _).drew
  have hZA : At8 31 (wa.alloc (.cells #[.int .i64 0, .int .i64 0, .int .i64 0, .int .i64 0, .slice none 0 0, .bool false, .int .i64 0, .int .i64 0] 31)).drew wa.heap.size (.int .i64 0) (.int .i64 0) (.int .i64 0) (.int .i64 0) (.slice none 0 0) (.bool false) (.int .i64 0) (.int .i64 0) := at8_new 31 wa wa.heap.size (.int .i64 0) (.int .i64 0) (.int .i64 0) (.int .i64 0) (.slice none 0 0) (.bool false) (.int .i64 0) (.int .i64 0) rfl
  obtain ⟨_, _, _, _⟩ := hXa.cells
  obtain ⟨_, _, _, _⟩ := (hXa.later hB).cells
  obtain ⟨_, _, _, _, _, _, _, _⟩ := hZA.frees
  obtain ⟨_, _, _, _, _, _, _, _⟩ := hZA.cells
  have HNw := Lib.hid (fun (W : World) (h : Below wa.heap.size wa W) => ((gpNew_any (⟨6, 2, 1, 2⟩ : GC) W).mono (by
    rintro e w' ⟨gg, rfl, hG, hk⟩
    exact ⟨gg, rfl, hG.base h.size, hk, h.trans (hk.mono h.size)⟩) : Calls Try.prog 8 #[.agg #[.int .i64 6, .int .i64 2, .int .i64 1, .int .i64 2]] W fun e w' => ∃ gg, e = .returned (.pointer (some ⟨gg, 0, none⟩)) ∧ GIn w' wa.heap.size gg (⟨6, 2, 1, 2⟩ : GC).clip false 0 (.slice none 0 0) [] 0 ∧ Below W.heap.size W w' ∧ Below wa.heap.size wa w'))
  have HRn := Lib.hid (fun (W W0 : World) (h : Below wa.heap.size wa W) (h0 : Below W0.heap.size W0 W) => ((refGpNew_any (⟨6, 2, 1, 2⟩ : GC) W).mono (by
    rintro e w' ⟨rfl, hk⟩
    exact ⟨rfl, hk, h.trans (hk.mono h.size), h0.trans (hk.mono h0.size)⟩) : Calls Try.prog 9 #[.agg #[.int .i64 6, .int .i64 2, .int .i64 1, .int .i64 2]] W fun e w' => e = .returned (.agg #[.int .i64 (⟨6, 2, 1, 2⟩ : GC).clip.m, .int .i64 (⟨6, 2, 1, 2⟩ : GC).clip.t, .int .i64 (⟨6, 2, 1, 2⟩ : GC).clip.f, .int .i64 (⟨6, 2, 1, 2⟩ : GC).clip.a, .slice none 0 0, .bool false, .int .i64 0, .int .i64 0]) ∧ Below W.heap.size W w' ∧ Below wa.heap.size wa w' ∧ Below W0.heap.size W0 w'))
  generalize hcl : (⟨6, 2, 1, 2⟩ : GC).clip = cl at HNw HRn
  have HCL := Lib.hid hcl
  clear hcl
  go_cut [6, 7] (fun y z wz => ∃ gg gx, y = .pointer (some ⟨gg, 0, none⟩) ∧ z = .pointer (some ⟨gx, 0, none⟩) ∧ wa.heap.size ≤ gx ∧ GIn wz wa.heap.size gg cl false 0 (.slice none 0 0) [] 0 ∧ At8 31 wz gx (.int .i64 cl.m) (.int .i64 cl.t) (.int .i64 cl.f) (.int .i64 cl.a) (.slice none 0 0) (.bool false) (.int .i64 0) (.int .i64 0) ∧ Below wa.heap.size wa wz)
  case first =>
    go_region_law (first | (go_simp; go_at_call 8; refine (HNw.out _ ?hb).mono ?_; (case hb => first | with_reducible exact hA | with_reducible exact hB); rintro e w7 ⟨gg, rfl, hG7, hk7, hq7⟩; obtain ⟨_, _, _, _⟩ := (hXa.later hq7).cells; obtain ⟨_, _, _, _⟩ := (hXa.later (hq7.alloc hq7.size (.cells #[.int .i64 0, .int .i64 0, .int .i64 0, .int .i64 0, .slice none 0 0, .bool false, .int .i64 0, .int .i64 0] 31))).cells; (try (have hZ7 : At8 31 w7 wa.heap.size (.int .i64 0) (.int .i64 0) (.int .i64 0) (.int .i64 0) (.slice none 0 0) (.bool false) (.int .i64 0) (.int .i64 0) := (by with_reducible exact hZA.later hk7)))) | (go_simp; go_at_call 9; refine (HRn.out _ w7 ?hb2 ?hb3).mono ?_; (case hb2 => first | with_reducible exact hq7 | with_reducible exact hq7.alloc hq7.size _); (case hb3 => first | with_reducible exact Below.refl _ _ | with_reducible exact (Below.refl _ _).alloc (Nat.le_refl _) _); rintro e w8 ⟨rfl, hk8, hq8, hr8⟩; have hG8 := hG7.later hr8; (try (have hZ8 : At8 31 w8 wa.heap.size (.int .i64 0) (.int .i64 0) (.int .i64 0) (.int .i64 0) (.slice none 0 0) (.bool false) (.int .i64 0) (.int .i64 0) := (by with_reducible exact hZ7.later hk8))); (try (have hZ8b : At8 31 w8 w7.heap.size (.int .i64 0) (.int .i64 0) (.int .i64 0) (.int .i64 0) (.slice none 0 0) (.bool false) (.int .i64 0) (.int .i64 0) := (by with_reducible exact (at8_new 31 w7 w7.heap.size (.int .i64 0) (.int .i64 0) (.int .i64 0) (.int .i64 0) (.slice none 0 0) (.bool false) (.int .i64 0) (.int .i64 0) rfl).later hk8))); (try (obtain ⟨_, _, _, _, _, _, _, _⟩ := hZ8.frees; obtain ⟨_, _, _, _, _, _, _, _⟩ := hZ8.cells)); (try (obtain ⟨_, _, _, _, _, _, _, _⟩ := hZ8b.frees; obtain ⟨_, _, _, _, _, _, _, _⟩ := hZ8b.cells))))
    all_goals
      go_wp2_with fail
      go_meet
      first
      | exact ⟨gg, wa.heap.size, rfl, rfl, Nat.le_refl _, hG8.only8 hZ8 (put8_only w8 wa.heap.size (.int .i64 cl.m) (.int .i64 cl.t) (.int .i64 cl.f) (.int .i64 cl.a) (.slice none 0 0) (.bool false) (.int .i64 0) (.int .i64 0)) (by decide) (by decide), at8_put8 hZ8 (.int .i64 cl.m) (.int .i64 cl.t) (.int .i64 cl.f) (.int .i64 cl.a) (.slice none 0 0) (.bool false) (.int .i64 0) (.int .i64 0), hq8.trans ((put8_only w8 wa.heap.size (.int .i64 cl.m) (.int .i64 cl.t) (.int .i64 cl.f) (.int .i64 cl.a) (.slice none 0 0) (.bool false) (.int .i64 0) (.int .i64 0)).below (Nat.le_refl _))⟩
      | exact ⟨gg, w7.heap.size, rfl, rfl, hq7.size, hG8.only8 hZ8b (put8_only w8 w7.heap.size (.int .i64 cl.m) (.int .i64 cl.t) (.int .i64 cl.f) (.int .i64 cl.a) (.slice none 0 0) (.bool false) (.int .i64 0) (.int .i64 0)) (by decide) (by decide), at8_put8 hZ8b (.int .i64 cl.m) (.int .i64 cl.t) (.int .i64 cl.f) (.int .i64 cl.a) (.slice none 0 0) (.bool false) (.int .i64 0) (.int .i64 0), hq8.trans ((put8_only w8 w7.heap.size (.int .i64 cl.m) (.int .i64 cl.t) (.int .i64 cl.f) (.int .i64 cl.a) (.slice none 0 0) (.bool false) (.int .i64 0) (.int .i64 0)).below hq7.size)⟩
      | exact ⟨gg, w8.heap.size, rfl, rfl, hq8.size, hG8.later ((Below.refl _ _).alloc (Nat.le_refl _) _), at8_new 31 w8 w8.heap.size (.int .i64 cl.m) (.int .i64 cl.t) (.int .i64 cl.f) (.int .i64 cl.a) (.slice none 0 0) (.bool false) (.int .i64 0) (.int .i64 0) rfl, hq8.alloc hq8.size _⟩
  case rest =>
  obtain ⟨gg, gx, rfl, rfl, hgx, hG, hX8, hbq⟩ := hcut
  rename World => wx
  clear hA hB hZA HNw HRn
  have hbx := hb1.trans (hbq.mono hb1.size)
  have hgB : w.heap.size ≤ wa.heap.size := hb1.size
  generalize wa.heap.size = gh at hG hgB hgx
  clear hXa hb1 hbq
  have hm15 : ∀ z : Int, bits .and .i64 z 15 = z % 16 := fun z => i64_mask z 4 (by omega)
  have HM15 := Lib.hid hm15
  clear hm15
  go_upto_block 0 with fail
  go_cut [8] (fun s8 wz => ∃ (now : Int) (cm : Bool) (gr : Int) (l : List GW) (v : Value) (gv : Int) (ax : Option Addr) (cx : Nat), s8 = .int .i64 now ∧ 0 ≤ now ∧ now ≤ 300 ∧ 0 ≤ gv ∧ gv ≤ 87960930240000 ∧ GIn wz gh gg cl cm gr v l gv ∧ At8 31 wz gx (.int .i64 cl.m) (.int .i64 cl.t) (.int .i64 cl.f) (.int .i64 cl.a) (.slice ax l.length cx) (.bool cm) (.int .i64 gr) (.int .i64 gv) ∧ OwnE wz 0 65 3 (.slice ax l.length cx) l.length (grV l) ∧ (cm = false → l = []) ∧ Below w.heap.size w wz)
  case first =>
    go_wp2_with fail
    go_loopw [8, 10] (fun s8 i wr => ∃ (k : Nat) (now : Int) (cm : Bool) (gr : Int) (l : List GW) (v : Value) (gv : Int) (ax : Option Addr) (cx : Nat), k ≤ len0 ∧ k ≤ 20 ∧ i = .int .i64 k ∧ s8 = .int .i64 now ∧ 0 ≤ now ∧ now ≤ 15 * k ∧ 0 ≤ gv ∧ gv ≤ 4398046512000 * k ∧ GIn wr gh gg cl cm gr v l gv ∧ At8 31 wr gx (.int .i64 cl.m) (.int .i64 cl.t) (.int .i64 cl.f) (.int .i64 cl.a) (.slice ax l.length cx) (.bool cm) (.int .i64 gr) (.int .i64 gv) ∧ OwnE wr 0 65 3 (.slice ax l.length cx) l.length (grV l) ∧ (cm = false → l = []) ∧ Below w.heap.size w wr) (fun _ i _ => 20 - (intOf i).toNat)
    case atStart => exact ⟨0, 0, false, 0, [], _, 0, none, 0, Nat.zero_le _, by omega, rfl, rfl, Int.le_refl _, by omega, Int.le_refl _, by omega, hG, hX8, ownE_nil _ _ _ _, fun _ => rfl, hbx⟩
    case round =>
      obtain ⟨k, now, cm, gr, l, v, gv, ax, cx, hk, hk20, rfl, rfl, hn0, hn1, hv0, hv1, hG, hX, hx, hl, hb⟩ := hrel
      clear hX8 hbx
      by_cases hlt : k < len0 ∧ k < 20
      · obtain ⟨hlt, hlt20⟩ := hlt
        have hm15 := HM15.out
        obtain ⟨ab, off, rfl, habl, kd, N, L, ha0, ha1, ha2⟩ := HACT.out k hlt wr hb
        obtain ⟨q, hq⟩ : ∃ q, L % 16 = q := ⟨_, rfl⟩
        have hq0 : 0 ≤ q := by omega
        have hq1 : q ≤ 15 := by omega
        have HDo := Lib.hid (gpDo_any hG.drew hx.drew hl ⟨hv0, by omega⟩ hG.ks kd N L (now + q))
        unfold grG at HDo
        obtain ⟨_, _, _, _, _, _, _, _⟩ := hX.cells
        obtain ⟨_, _, _, _, _, _, _, _⟩ := hX.frees
        go_upto_region 12 with fail
        clear hm15 hq
        go_cut [9] (fun y wz => ∃ (cm' : Bool) (gr' gv' : Int) (l' : List GW) (v' : Value) (ax' : Option Addr) (cx' : Nat), y = .bool true ∧ 0 ≤ gv' ∧ gv' ≤ gv + 4398046512000 ∧ GIn wz gh gg cl cm' gr' v' l' gv' ∧ At8 31 wz gx (.int .i64 cl.m) (.int .i64 cl.t) (.int .i64 cl.f) (.int .i64 cl.a) (.slice ax' l'.length cx') (.bool cm') (.int .i64 gr') (.int .i64 gv') ∧ OwnE wz 0 65 3 (.slice ax' l'.length cx') l'.length (grV l') ∧ (cm' = false → l' = []) ∧ Below gh wr wz)
        case first =>
          go_region_with (first | (go_at_call 12; refine HDo.out.mono ?_; rintro e w7 ⟨cm', gr', gv', l', v', vx', rfl, hQ7, hx7, hl7, hv7, hv8, hk7, hK7⟩; obtain ⟨ax', cx', rfl⟩ := hx7.formG; have hX7 := hX.drew.keptG hK7 (by decide) (by decide); obtain ⟨_, _, _, _, _, _, _, _⟩ := hX7.frees; obtain ⟨_, _, _, _, _, _, _, _⟩ := hX7.cells))
          all_goals
            have ho8 := put8_only w7 gx (.int .i64 cl.m) (.int .i64 cl.t) (.int .i64 cl.f) (.int .i64 cl.a) (.slice ax' l'.length cx') (.bool cm') (.int .i64 gr') (.int .i64 gv')
            have hQ8 := hQ7.only8 hX7 ho8 (by decide) (by decide)
            have hx8 := hx7.only8 hX7 ho8 (by decide)
            go_wp2_with fail
            go_meet
            exact ⟨cm', gr', gv', l', v', ax', cx', rfl, hv7, hv8, hQ8, at8_put8 hX7 _ _ _ _ _ _ _ _, hx8, hl7, (((Below.refl gh wr).drew).trans hk7).trans (ho8.below hgx)⟩
        case rest =>
        obtain ⟨cm', gr', gv', l', v', ax', cx', rfl, hv7, hv8, hG9, hX9, hx9, hl9, hk9⟩ := hcut
        rename World => w9
        have hb9 := hb.trans (hk9.mono hgB)
        clear hG hX hx hb hk9 HDo ha0 ha1 ha2 hl
        go_wp2_with fail
        go_roundw
        case rel => exact ⟨k + 1, now + q, cm', gr', l', v', gv', ax', cx', by omega, by omega, by go_num, rfl, by omega, by push_cast; omega, hv7, by push_cast; omega, hG9, hX9, hx9, hl9, hb9⟩
        case measure => simp [intOf]; omega
      · by_cases hk1 : k < len0
        · have hk2 : k = 20 := by omega
          subst hk2
          go_wp2_with fail
          go_meet
          exact ⟨now, cm, gr, l, v, gv, ax, cx, rfl, hn0, by omega, hv0, by omega, hG, hX, hx, hl, hb⟩
        · have hk2 : k = len0 := by omega
          subst hk2
          go_wp2_with fail
          go_meet
          exact ⟨now, cm, gr, l, v, gv, ax, cx, rfl, hn0, by omega, hv0, by omega, hG, hX, hx, hl, hb⟩
  case rest =>
  obtain ⟨now0, cm, gr, l, v, gv, ax, cx, rfl, hn00, hn01, hv0, hv1, hQ, hX, hx, hl, hb⟩ := hcut
  rename World => wr
  clear hG hX8 hbx HACT
  have HClo : Hid (∀ W, Below wr.heap.size wr W → Calls Try.prog 14 #[.pointer (some ⟨gg, 0, none⟩)] W fun e w' => ∃ gc v', e = .returned (.pointer (some ⟨gc, 0, none⟩)) ∧ GIn w' wr.heap.size gc cl cm gr v' l gv ∧ Below W.heap.size W w' ∧ Below wr.heap.size wr w') := Lib.hid (fun W h => (gpClone_any (hQ.later h)).mono (by
    rintro e w' ⟨gc, v', rfl, hG, hk⟩
    exact ⟨gc, v', rfl, hG.base h.size, hk, h.trans (hk.mono h.size)⟩))
  have hsz := hb.size
  have hA : Below wr.heap.size wr wr.drew := (Below.refl _ _).drew
  have hB : Below wr.heap.size wr (wr.alloc (.cells #[.int .i64 0, .int .i64 0, .int .i64 0, .int .i64 0, .slice none 0 0, .bool false, .int .i64 0, .int .i64 0] 31)).drew := ((Below.refl _ _).alloc (Nat.le_refl _) _).drew
  have hZA : At8 31 (wr.alloc (.cells #[.int .i64 0, .int .i64 0, .int .i64 0, .int .i64 0, .slice none 0 0, .bool false, .int .i64 0, .int .i64 0] 31)).drew wr.heap.size (.int .i64 0) (.int .i64 0) (.int .i64 0) (.int .i64 0) (.slice none 0 0) (.bool false) (.int .i64 0) (.int .i64 0) := at8_new 31 wr wr.heap.size (.int .i64 0) (.int .i64 0) (.int .i64 0) (.int .i64 0) (.slice none 0 0) (.bool false) (.int .i64 0) (.int .i64 0) rfl
  obtain ⟨_, _, _, _, _, _, _, _⟩ := hX.cells
  obtain ⟨_, _, _, _, _, _, _, _⟩ := (hX.later hB).cells
  obtain ⟨_, _, _, _, _, _, _, _⟩ := hZA.frees
  obtain ⟨_, _, _, _, _, _, _, _⟩ := hZA.cells
  go_upto_region 15 with fail
  go_cut [11, 12] (fun y z wz => ∃ gc gy v2, y = .pointer (some ⟨gc, 0, none⟩) ∧ z = .pointer (some ⟨gy, 0, none⟩) ∧ wr.heap.size ≤ gy ∧ GIn wz wr.heap.size gc cl cm gr v2 l gv ∧ At8 31 wz gy (.int .i64 cl.m) (.int .i64 cl.t) (.int .i64 cl.f) (.int .i64 cl.a) (.slice ax l.length cx) (.bool cm) (.int .i64 gr) (.int .i64 gv) ∧ Below wr.heap.size wr wz)
  case first =>
    go_region_law (first | (go_simp; go_at_call 14; refine (HClo.out _ ?hb).mono ?_; (case hb => first | with_reducible exact hA | with_reducible exact hB); rintro e w7 ⟨gc, v2, rfl, hQ7, hk7', hk7⟩; obtain ⟨_, _, _, _, _, _, _, _⟩ := (hX.later hk7).cells; obtain ⟨_, _, _, _, _, _, _, _⟩ := (hX.later (hk7.alloc hk7.size (.cells #[.int .i64 0, .int .i64 0, .int .i64 0, .int .i64 0, .slice none 0 0, .bool false, .int .i64 0, .int .i64 0] 31))).cells; (try (have hN7 : At8 31 w7 wr.heap.size (.int .i64 0) (.int .i64 0) (.int .i64 0) (.int .i64 0) (.slice none 0 0) (.bool false) (.int .i64 0) (.int .i64 0) := (by with_reducible exact hZA.later hk7'))); (try (obtain ⟨_, _, _, _, _, _, _, _⟩ := hN7.frees; obtain ⟨_, _, _, _, _, _, _, _⟩ := hN7.cells))))
    all_goals
      go_wp2_with fail
      go_meet
      first
      | exact ⟨gc, wr.heap.size, v2, rfl, rfl, Nat.le_refl _, hQ7.only8 hN7 (put8_only w7 wr.heap.size (.int .i64 cl.m) (.int .i64 cl.t) (.int .i64 cl.f) (.int .i64 cl.a) (.slice ax l.length cx) (.bool cm) (.int .i64 gr) (.int .i64 gv)) (by decide) (by decide), at8_put8 hN7 (.int .i64 cl.m) (.int .i64 cl.t) (.int .i64 cl.f) (.int .i64 cl.a) (.slice ax l.length cx) (.bool cm) (.int .i64 gr) (.int .i64 gv), hk7.trans ((put8_only w7 wr.heap.size (.int .i64 cl.m) (.int .i64 cl.t) (.int .i64 cl.f) (.int .i64 cl.a) (.slice ax l.length cx) (.bool cm) (.int .i64 gr) (.int .i64 gv)).below (Nat.le_refl _))⟩
      | exact ⟨gc, w7.heap.size, v2, rfl, rfl, hk7.size, hQ7.later ((Below.refl _ _).alloc (Nat.le_refl _) _), at8_new 31 w7 w7.heap.size (.int .i64 cl.m) (.int .i64 cl.t) (.int .i64 cl.f) (.int .i64 cl.a) (.slice ax l.length cx) (.bool cm) (.int .i64 gr) (.int .i64 gv) rfl, hk7.alloc hk7.size _⟩
  case rest =>
  obtain ⟨gc, gy, v2, rfl, rfl, hgy, hQ5, hX5, hk9⟩ := hcut
  rename World => w5
  have hx5 := hx.later hk9
  clear HClo hA hB hZA
  obtain ⟨N0, hN⟩ : ∃ N0, N0 = wr.heap.size := ⟨_, rfl⟩
  have HQL : Hid (∀ W, Below N0 wr W → GIn W gh gg cl cm gr v l gv ∧ At8 31 W gx (.int .i64 cl.m) (.int .i64 cl.t) (.int .i64 cl.f) (.int .i64 cl.a) (.slice ax l.length cx) (.bool cm) (.int .i64 gr) (.int .i64 gv) ∧ OwnE W 0 65 3 (.slice ax l.length cx) l.length (grV l)) := Lib.hid (fun W h => by rw [hN] at h; exact ⟨hQ.later h, hX.later h, hx.later h⟩)
  rw [← hN] at hgy hQ5 hk9 hsz
  clear hQ hX hx hN
  go_wp2_with fail
  go_loopw [8, 13] (fun s8 i wz => ∃ (k2 : Nat) (now : Int) (cm2 : Bool) (gr2 : Int) (l2 : List GW) (v3 : Value) (gv2 : Int) (ay : Option Addr) (cy : Nat), k2 ≤ len1 ∧ k2 ≤ 20 ∧ i = .int .i64 k2 ∧ s8 = .int .i64 now ∧ 0 ≤ now ∧ now ≤ 300 + 15 * k2 ∧ 0 ≤ gv2 ∧ gv2 ≤ 87960930240000 + 4398046512000 * k2 ∧ GIn wz N0 gc cl cm2 gr2 v3 l2 gv2 ∧ At8 31 wz gy (.int .i64 cl.m) (.int .i64 cl.t) (.int .i64 cl.f) (.int .i64 cl.a) (.slice ay l2.length cy) (.bool cm2) (.int .i64 gr2) (.int .i64 gv2) ∧ OwnE wz 0 65 3 (.slice ay l2.length cy) l2.length (grV l2) ∧ (cm2 = false → l2 = []) ∧ Below N0 w5 wz) (fun _ i _ => 20 - (intOf i).toNat)
  case atStart => exact ⟨0, now0, cm, gr, l, v2, gv, ax, cx, Nat.zero_le _, by omega, rfl, rfl, hn00, by omega, hv0, by omega, hQ5, hX5, hx5, hl, Below.refl _ _⟩
  case round =>
    obtain ⟨k2, now, cm2, gr2, l2, v3, gv2, ay, cy, hk2, hk20, rfl, rfl, hn0, hn1, hv20, hv21, hQs, hXs, hxs, hl2, hbs⟩ := hrel
    clear hQ5 hX5 hx5
    rename World => wc
    have hba := hb.trans ((hk9.trans hbs).mono hsz)
    by_cases hlt2 : k2 < len1 ∧ k2 < 20
    · obtain ⟨hlt2, hlt20⟩ := hlt2
      have hm15 := HM15.out
      obtain ⟨ab, off, rfl, habl, kd, N, L, ha0, ha1, ha2⟩ := HACT1.out k2 hlt2 wc hba
      obtain ⟨q, hq⟩ : ∃ q, L % 16 = q := ⟨_, rfl⟩
      have hq0 : 0 ≤ q := by omega
      have hq1 : q ≤ 15 := by omega
      have HDo := Lib.hid (gpDo_any hQs.drew hxs.drew hl2 ⟨hv20, by omega⟩ hQs.ks kd N L (now + q))
      unfold grG at HDo
      obtain ⟨_, _, _, _, _, _, _, _⟩ := hXs.cells
      obtain ⟨_, _, _, _, _, _, _, _⟩ := hXs.frees
      go_upto_region 22 with fail
      clear hm15 hq
      go_cut [9] (fun y wz => ∃ (cm' : Bool) (gr' gv' : Int) (l' : List GW) (v' : Value) (ax' : Option Addr) (cx' : Nat), y = .bool true ∧ 0 ≤ gv' ∧ gv' ≤ gv2 + 4398046512000 ∧ GIn wz N0 gc cl cm' gr' v' l' gv' ∧ At8 31 wz gy (.int .i64 cl.m) (.int .i64 cl.t) (.int .i64 cl.f) (.int .i64 cl.a) (.slice ax' l'.length cx') (.bool cm') (.int .i64 gr') (.int .i64 gv') ∧ OwnE wz 0 65 3 (.slice ax' l'.length cx') l'.length (grV l') ∧ (cm' = false → l' = []) ∧ Below N0 wc wz)
      case first =>
        go_region_with (first | (go_at_call 12; refine HDo.out.mono ?_; rintro e w7 ⟨cm', gr', gv', l', v', vx', rfl, hQ7, hx7, hl7, hv7, hv8, hk7, hK7⟩; obtain ⟨ax', cx', rfl⟩ := hx7.formG; have hX7 := hXs.drew.keptG hK7 (by decide) (by decide); obtain ⟨_, _, _, _, _, _, _, _⟩ := hX7.frees; obtain ⟨_, _, _, _, _, _, _, _⟩ := hX7.cells))
        all_goals
          have ho8 := put8_only w7 gy (.int .i64 cl.m) (.int .i64 cl.t) (.int .i64 cl.f) (.int .i64 cl.a) (.slice ax' l'.length cx') (.bool cm') (.int .i64 gr') (.int .i64 gv')
          have hQ8 := hQ7.only8 hX7 ho8 (by decide) (by decide)
          have hx8 := hx7.only8 hX7 ho8 (by decide)
          go_wp2_with fail
          go_meet
          exact ⟨cm', gr', gv', l', v', ax', cx', rfl, hv7, hv8, hQ8, at8_put8 hX7 _ _ _ _ _ _ _ _, hx8, hl7, (((Below.refl N0 wc).drew).trans hk7).trans (ho8.below hgy)⟩
      case rest =>
      obtain ⟨cm', gr', gv', l', v', ax', cx', rfl, hv7, hv8, hQ9, hX9, hx9, hl9, hkp⟩ := hcut
      rename World => w9
      have hb9 := hbs.trans hkp
      clear hQs hXs hxs hbs HDo ha0 ha1 ha2 hba hl2
      go_wp2_with fail
      go_roundw
      case rel => exact ⟨k2 + 1, now + q, cm', gr', l', v', gv', ax', cx', by omega, by omega, by go_num, rfl, by omega, by push_cast; omega, hv7, by push_cast; omega, hQ9, hX9, hx9, hl9, hb9⟩
      case measure => simp [intOf]; omega
    · have hend2 : (k2 = 20 ∧ k2 < len1) ∨ k2 = len1 := by omega
      have hkA := hk9.trans hbs
      obtain ⟨hQA, hXA, hxA⟩ := HQL.out _ hkA
      have HI1 := Lib.hid (gpIs_any hQA hxA)
      have HI2 : Hid (∀ W, Below wc.heap.size wc W → Calls Try.prog 13 #[.pointer (some ⟨gc, 0, none⟩), grG cl (.slice ay l2.length cy) cm2 gr2 gv2] W fun e w' => e = .returned (.bool true) ∧ Below W.heap.size W w') := Lib.hid (fun W h => gpIs_any (hQs.later h) (hxs.later h))
      unfold grG at HI1 HI2
      clear HQL hQA hxA hkA hbs hb
      obtain ⟨_, _, _, _, _, _, _, _⟩ := hXA.cells
      rcases hend2 with ⟨he, he2⟩ | he
      all_goals
        subst he
        go_wp2_with fail
        refine HI1.out.mono ?_
        rintro e wx ⟨rfl, hkx⟩
        obtain ⟨_, _, _, _, _, _, _, _⟩ := (hXs.later hkx).cells
        go_wp2_with fail
        refine (HI2.out _ hkx).mono ?_
        rintro e wy ⟨rfl, hky⟩
        go_wp2_with fail
        go_ret
        exact ⟨rfl, hba.trans ((hkx.trans (hky.mono hkx.size)).mono hba.size)⟩
end gapsClone
end Go.Proofs.Ytdbmhgfdcdcgfaa
