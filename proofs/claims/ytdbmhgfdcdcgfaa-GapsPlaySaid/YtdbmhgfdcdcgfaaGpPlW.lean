/- GapsPlay: the walk. -/
import Derived.Test.YtdbmhgfdcdcgfaaGpY
import Derived.Test.YtdbmhgfdcdcgfaaGpOfW
import Derived.Laws.StructEq
namespace Go.Proofs.Ytdbmhgfdcdcgfaa
open Go.RowKit
set_option linter.unusedVariables false
set_option linter.unusedSimpArgs false
set_option maxRecDepth 100000 in
theorem cfgNe (a b c d : Int) (w : World) : (binOp .neq 23 (.agg #[.int .i64 a, .int .i64 b, .int .i64 c, .int .i64 d]) (.agg #[.int .i64 a, .int .i64 b, .int .i64 c, .int .i64 d])).run Try.prog w = .ok (.bool false) w := by
  have hS : Try.prog.underlying 23 = some (.struct (Try.prog.fieldsOf 23)) := by kernel_rfl
  have hp : Try.prog.stoodInHeld 23 = false := by kernel_rfl
  rw [run_neq_struct, show (10000 : Nat) = 9999 + 1 from rfl, run_equalIn_agg w 9999 23 _ _ hS hp]
  simp only [Program.fieldsOf, Try.underlying23]
  go_simp
namespace gapsPlay
set_option maxRecDepth 100000 in
set_option maxHeartbeats 6400000 in
theorem walk (a00 a01 a02 a03 a1 : Int) (p2 : Option Addr) (len2 cap2 : Nat) (w00 : (Lit.int .i64 a00).wf = true) (w01 : (Lit.int .i64 a01).wf = true) (w02 : (Lit.int .i64 a02).wf = true) (w03 : (Lit.int .i64 a03).wf = true) (w1 : (Lit.int .i64 a1).wf = true) (w : World) (w2 : Recs gpActP w p2 len2) (hl2 : len2 ≤ 9223372036854775807) :
    Calls Try.prog 3 #[.agg #[.int .i64 a00, .int .i64 a01, .int .i64 a02, .int .i64 a03], .int .i64 a1, .slice p2 len2 cap2] w fun e w' => e = .returned (.bool true) ∧ Below w.heap.size w w' := by
  clear w00 w01 w02 w03 w1
  have HACT := Lib.hid (fun (k : Nat) (hk : k < len2) (W : World) (hb : Below w.heap.size w W) => gpAct_at w2 hb hk)
  clear w2
  have hX0 := at4_new 23 w w.heap.size (.int .i64 a00) (.int .i64 a01) (.int .i64 a02) (.int .i64 a03) rfl
  have hb0 : Below w.heap.size w (w.alloc (.cells #[.int .i64 a00, .int .i64 a01, .int .i64 a02, .int .i64 a03] 23)) := (Below.refl _ _).alloc (Nat.le_refl _) _
  obtain ⟨cf, hcf⟩ : ∃ cf : GC, cf = ⟨a00, a01, a02, a03⟩ := ⟨_, rfl⟩
  have e0 : a00 = cf.m := by rw [hcf]
  have e1 : a01 = cf.t := by rw [hcf]
  have e2 : a02 = cf.f := by rw [hcf]
  have e3 : a03 = cf.a := by rw [hcf]
  subst e0 e1 e2 e3
  clear hcf
  go_enter Try.func3, Try.ntmps3
  go_upto_region 1 with fail
  generalize (w.alloc (.cells #[.int .i64 cf.m, .int .i64 cf.t, .int .i64 cf.f, .int .i64 cf.a] 23)) = w0 at hX0 hb0 ⊢
  obtain ⟨g0, hg0⟩ : ∃ g0, w.heap.size = g0 := ⟨_, rfl⟩
  rw [hg0] at hX0 ⊢
  have HG0 := Lib.hid hg0
  clear hg0
  go_wp2_with fail
  refine (gpAwake_any w0).mono ?_
  rintro e wa ⟨rfl, hba⟩
  have hXa := hX0.later hba
  have hb1 := hb0.trans (hba.mono hb0.size)
  clear hX0 hb0 hba
  go_upto_region 3 with fail
  have hA : Below wa.heap.size wa wa.drew := (Below.refl _ _).drew
  have hB : Below wa.heap.size wa (wa.alloc (.cells #[.int .i64 0, .int .i64 0, .int .i64 0, .int .i64 0, .slice none 0 0, .bool false, .int .i64 0, .int .i64 0] 31)).drew := ((Below.refl _ _).alloc (Nat.le_refl _) _).drew
  have hZA : At8 31 (wa.alloc (.cells #[.int .i64 0, .int .i64 0, .int .i64 0, .int .i64 0, .slice none 0 0, .bool false, .int .i64 0, .int .i64 0] 31)).drew wa.heap.size (.int .i64 0) (.int .i64 0) (.int .i64 0) (.int .i64 0) (.slice none 0 0) (.bool false) (.int .i64 0) (.int .i64 0) := at8_new 31 wa wa.heap.size (.int .i64 0) (.int .i64 0) (.int .i64 0) (.int .i64 0) (.slice none 0 0) (.bool false) (.int .i64 0) (.int .i64 0) rfl
  obtain ⟨_, _, _, _⟩ := hXa.cells
  obtain ⟨_, _, _, _⟩ := (hXa.later hB).cells
  obtain ⟨_, _, _, _, _, _, _, _⟩ := hZA.frees
  obtain ⟨_, _, _, _, _, _, _, _⟩ := hZA.cells
  have HNw := Lib.hid (fun (W : World) (h : Below wa.heap.size wa W) => ((gpNew_any cf W).mono (by
    rintro e w' ⟨gg, rfl, hG, hk⟩
    exact ⟨gg, rfl, hG.base h.size, hk, h.trans (hk.mono h.size)⟩) : Calls Try.prog 8 #[.agg #[.int .i64 cf.m, .int .i64 cf.t, .int .i64 cf.f, .int .i64 cf.a]] W fun e w' => ∃ gg, e = .returned (.pointer (some ⟨gg, 0, none⟩)) ∧ GIn w' wa.heap.size gg cf.clip false 0 (.slice none 0 0) [] 0 ∧ Below W.heap.size W w' ∧ Below wa.heap.size wa w'))
  have HRn := Lib.hid (fun (W W0 : World) (h : Below wa.heap.size wa W) (h0 : Below W0.heap.size W0 W) => ((refGpNew_any cf W).mono (by
    rintro e w' ⟨rfl, hk⟩
    exact ⟨rfl, hk, h.trans (hk.mono h.size), h0.trans (hk.mono h0.size)⟩) : Calls Try.prog 9 #[.agg #[.int .i64 cf.m, .int .i64 cf.t, .int .i64 cf.f, .int .i64 cf.a]] W fun e w' => e = .returned (.agg #[.int .i64 cf.clip.m, .int .i64 cf.clip.t, .int .i64 cf.clip.f, .int .i64 cf.clip.a, .slice none 0 0, .bool false, .int .i64 0, .int .i64 0]) ∧ Below W.heap.size W w' ∧ Below wa.heap.size wa w' ∧ Below W0.heap.size W0 w'))
  generalize hcl : cf.clip = cl at HNw HRn
  have HCL := Lib.hid hcl
  clear hcl
  go_cut [7, 8] (fun y z wz => ∃ gg gx, y = .pointer (some ⟨gg, 0, none⟩) ∧ z = .pointer (some ⟨gx, 0, none⟩) ∧ wa.heap.size ≤ gx ∧ GIn wz wa.heap.size gg cl false 0 (.slice none 0 0) [] 0 ∧ At8 31 wz gx (.int .i64 cl.m) (.int .i64 cl.t) (.int .i64 cl.f) (.int .i64 cl.a) (.slice none 0 0) (.bool false) (.int .i64 0) (.int .i64 0) ∧ Below wa.heap.size wa wz)
  case first =>
    go_region_law (first | (go_simp; go_at_call 8; refine (HNw.out _ ?hb).mono ?_; (case hb => first | with_reducible exact hA | with_reducible exact hB); rintro e w7 ⟨gg, rfl, hG7, hk7, hq7⟩; obtain ⟨_, _, _, _⟩ := (hXa.later hq7).cells; obtain ⟨_, _, _, _⟩ := (hXa.later (hq7.alloc hq7.size (.cells #[.int .i64 0, .int .i64 0, .int .i64 0, .int .i64 0, .slice none 0 0, .bool false, .int .i64 0, .int .i64 0] 31))).cells; (try (have hZ7 : At8 31 w7 wa.heap.size (.int .i64 0) (.int .i64 0) (.int .i64 0) (.int .i64 0) (.slice none 0 0) (.bool false) (.int .i64 0) (.int .i64 0) := (by with_reducible exact hZA.later hk7)))) | (go_simp; go_at_call 9; refine (HRn.out _ w7 ?hb2 ?hb3).mono ?_; (case hb2 => first | with_reducible exact hq7 | with_reducible exact hq7.alloc hq7.size _); (case hb3 => first | with_reducible exact Below.refl _ _ | with_reducible exact (Below.refl _ _).alloc (Nat.le_refl _) _); rintro e w8 ⟨rfl, hk8, hq8, hr8⟩; have hG8 := hG7.later hr8; (try (have hZ8 : At8 31 w8 wa.heap.size (.int .i64 0) (.int .i64 0) (.int .i64 0) (.int .i64 0) (.slice none 0 0) (.bool false) (.int .i64 0) (.int .i64 0) := (by with_reducible exact hZ7.later hk8))); (try (have hZ8b : At8 31 w8 w7.heap.size (.int .i64 0) (.int .i64 0) (.int .i64 0) (.int .i64 0) (.slice none 0 0) (.bool false) (.int .i64 0) (.int .i64 0) := (by with_reducible exact (at8_new 31 w7 w7.heap.size (.int .i64 0) (.int .i64 0) (.int .i64 0) (.int .i64 0) (.slice none 0 0) (.bool false) (.int .i64 0) (.int .i64 0) rfl).later hk8))); (try (obtain ⟨_, _, _, _, _, _, _, _⟩ := hZ8.frees; obtain ⟨_, _, _, _, _, _, _, _⟩ := hZ8.cells)); (try (obtain ⟨_, _, _, _, _, _, _, _⟩ := hZ8b.frees; obtain ⟨_, _, _, _, _, _, _, _⟩ := hZ8b.cells))))
    all_goals
      go_wp2_with fail
      go_meet
      first
      | exact ⟨gg, wa.heap.size, rfl, rfl, Nat.le_refl _, hG8.only8 hZ8 (put8_only w8 wa.heap.size (.int .i64 cl.m) (.int .i64 cl.t) (.int .i64 cl.f) (.int .i64 cl.a) (.slice none 0 0) (.bool false) (.int .i64 0) (.int .i64 0)) (by decide) (by decide), at8_put8 hZ8 (.int .i64 cl.m) (.int .i64 cl.t) (.int .i64 cl.f) (.int .i64 cl.a) (.slice none 0 0) (.bool false) (.int .i64 0) (.int .i64 0), hq8.trans ((put8_only w8 wa.heap.size (.int .i64 cl.m) (.int .i64 cl.t) (.int .i64 cl.f) (.int .i64 cl.a) (.slice none 0 0) (.bool false) (.int .i64 0) (.int .i64 0)).below (Nat.le_refl _))⟩
      | exact ⟨gg, w7.heap.size, rfl, rfl, hq7.size, hG8.only8 hZ8b (put8_only w8 w7.heap.size (.int .i64 cl.m) (.int .i64 cl.t) (.int .i64 cl.f) (.int .i64 cl.a) (.slice none 0 0) (.bool false) (.int .i64 0) (.int .i64 0)) (by decide) (by decide), at8_put8 hZ8b (.int .i64 cl.m) (.int .i64 cl.t) (.int .i64 cl.f) (.int .i64 cl.a) (.slice none 0 0) (.bool false) (.int .i64 0) (.int .i64 0), hq8.trans ((put8_only w8 w7.heap.size (.int .i64 cl.m) (.int .i64 cl.t) (.int .i64 cl.f) (.int .i64 cl.a) (.slice none 0 0) (.bool false) (.int .i64 0) (.int .i64 0)).below hq7.size)⟩
      | exact ⟨gg, w8.heap.size, rfl, rfl, hq8.size, hG8.later ((Below.refl _ _).alloc (Nat.le_refl _) _), at8_new 31 w8 w8.heap.size (.int .i64 cl.m) (.int .i64 cl.t) (.int .i64 cl.f) (.int .i64 cl.a) (.slice none 0 0) (.bool false) (.int .i64 0) (.int .i64 0) rfl, hq8.alloc hq8.size _⟩
  case rest =>
  obtain ⟨gg, gx, rfl, rfl, hgx, hG, hX8, hbq⟩ := hcut
  rename World => wx
  clear hA hB hZA HNw HRn
  have hXx := hXa.later hbq
  have hbx := hb1.trans (hbq.mono hb1.size)
  have hgB : w.heap.size ≤ wa.heap.size := hb1.size
  generalize wa.heap.size = gh at hG hgB hgx
  clear hXa hb1 hbq
  obtain ⟨_, _, _, _⟩ := hXx.cells
  have HC1 := Lib.hid (fun W => gpClip_any cf W)
  have HC2 := Lib.hid (fun W => refGpClip_any cf W)
  have hne := fun W => cfgNe cl.m cl.t cl.f cl.a W
  rw [HCL.out] at HC1 HC2
  simp only [GC.val] at HC1 HC2
  go_upto_region 4 with fail
  go_cut [26] (fun y wz => y = .bool false ∧ Below wx.heap.size wx wz)
  case first =>
    go_region_law (first | (go_simp; go_at_call 10; refine (HC1.out _).mono ?_; rintro e w7 ⟨rfl, hk7⟩; have hk7' : Below wx.heap.size wx w7 := Below.trans (below_drewN (Below.refl wx.heap.size wx) _) hk7; obtain ⟨_, _, _, _⟩ := (hXx.later hk7').cells) | (go_simp; go_at_call 11; refine (HC2.out _).mono ?_; rintro e w8 ⟨rfl, hk8⟩))
    all_goals
      go_wp2_with fail
      go_meet
      exact ⟨rfl, hk7'.trans (hk8.mono hk7'.size)⟩
  case rest =>
  obtain ⟨rfl, hky⟩ := hcut
  rename World => wy
  have hG2 := hG.later hky
  have hX82 := hX8.later hky
  have hby := hbx.trans (hky.mono hbx.size)
  have hm0 : 0 ≤ max 0 (min a1 1099511627776) := by omega
  have hm1 : max 0 (min a1 1099511627776) ≤ 1099511627776 := by omega
  clear hG hX8 hbx hky HC1 HC2 hXx
  go_upto_region 7 with fail
  generalize max 0 (min a1 1099511627776) = m0 at hm0 hm1 ⊢
  clear hne
  go_wp2_with fail
  go_loopw [9, 11] (fun s9 i wr => ∃ (k : Nat) (now : Int) (cm : Bool) (gr : Int) (l : List GW) (v : Value) (gv : Int) (ax : Option Addr) (cx : Nat), k ≤ len2 ∧ k ≤ 40 ∧ i = .int .i64 k ∧ s9 = .int .i64 now ∧ 0 ≤ now ∧ now ≤ 1099511627776 + 255 * k ∧ 0 ≤ gv ∧ gv ≤ 4398046512000 * k ∧ GIn wr gh gg cl cm gr v l gv ∧ At8 31 wr gx (.int .i64 cl.m) (.int .i64 cl.t) (.int .i64 cl.f) (.int .i64 cl.a) (.slice ax l.length cx) (.bool cm) (.int .i64 gr) (.int .i64 gv) ∧ OwnE wr 0 65 3 (.slice ax l.length cx) l.length (grV l) ∧ (cm = false → l = []) ∧ Below w.heap.size w wr) (fun _ i _ => 40 - (intOf i).toNat)
  case atStart => exact ⟨0, m0, false, 0, [], _, 0, none, 0, Nat.zero_le _, by omega, rfl, rfl, hm0, by omega, Int.le_refl _, by omega, hG2, hX82, ownE_nil _ _ _ _, fun _ => rfl, hby⟩
  case round =>
    obtain ⟨k, now, cm, gr, l, v, gv, ax, cx, hk, hk40, rfl, rfl, hn0, hn1, hv0, hv1, hG, hX, hx, hl, hb⟩ := hrel
    clear hG2 hX82 hby
    by_cases hlt : k < len2 ∧ k < 40
    · obtain ⟨hlt, hlt40⟩ := hlt
      have hm255 : ∀ z : Int, bits .and .i64 z 255 = z % 256 := fun z => i64_mask z 8 (by omega)
      obtain ⟨ab, off, rfl, habl, kd, N, L, ha0, ha1, ha2⟩ := HACT.out k hlt wr hb
      obtain ⟨q, hq⟩ : ∃ q, L % 256 = q := ⟨_, rfl⟩
      have hq0 : 0 ≤ q := by omega
      have hq1 : q ≤ 255 := by omega
      have HDo := Lib.hid (gpDo_any hG.drew hx.drew hl ⟨hv0, by omega⟩ hG.ks kd N L (now + q))
      unfold grG at HDo
      obtain ⟨_, _, _, _, _, _, _, _⟩ := hX.cells
      obtain ⟨_, _, _, _, _, _, _, _⟩ := hX.frees
      go_upto_region 11 with fail
      clear hm255 hq
      go_cut [10] (fun y wz => ∃ (cm' : Bool) (gr' gv' : Int) (l' : List GW) (v' : Value) (ax' : Option Addr) (cx' : Nat), y = .bool true ∧ 0 ≤ gv' ∧ gv' ≤ gv + 4398046512000 ∧ GIn wz gh gg cl cm' gr' v' l' gv' ∧ At8 31 wz gx (.int .i64 cl.m) (.int .i64 cl.t) (.int .i64 cl.f) (.int .i64 cl.a) (.slice ax' l'.length cx') (.bool cm') (.int .i64 gr') (.int .i64 gv') ∧ OwnE wz 0 65 3 (.slice ax' l'.length cx') l'.length (grV l') ∧ (cm' = false → l' = []) ∧ Below gh wr wz)
      case first =>
        go_region_with (first | (go_at_call 12; refine HDo.out.mono ?_; rintro e w7 ⟨cm', gr', gv', l', v', vx', rfl, hQ7, hx7, hl7, hv7, hv8, hk7, hK7⟩; obtain ⟨ax', cx', rfl⟩ := hx7.formG; have hX7 := hX.drew.keptG hK7 (by decide) (by decide); obtain ⟨_, _, _, _, _, _, _, _⟩ := hX7.frees; obtain ⟨_, _, _, _, _, _, _, _⟩ := hX7.cells))
        all_goals
          have ho8 := put8_only w7 gx (.int .i64 cl.m) (.int .i64 cl.t) (.int .i64 cl.f) (.int .i64 cl.a) (.slice ax' l'.length cx') (.bool cm') (.int .i64 gr') (.int .i64 gv')
          have hQ8 := hQ7.only8 hX7 ho8 (by decide) (by decide)
          have hx8 := hx7.only8 hX7 ho8 (by decide)
          go_wp2_with fail
          go_meet
          exact ⟨cm', gr', gv', l', v', ax', cx', rfl, hv7, hv8, hQ8, at8_put8 hX7 _ _ _ _ _ _ _ _, hx8, hl7, (((Below.refl gh wr).drew).trans hk7).trans (ho8.below hgx)⟩
      case rest =>
      obtain ⟨cm', gr', gv', l', v', ax', cx', rfl, hv7, hv8, hG9, hX9, hx9, hl9, hk9⟩ := hcut
      rename World => w9
      have hb9 := hb.trans (hk9.mono hgB)
      have hc1 := hG9.len
      have HIs := Lib.hid (gpIs_any hG9 hx9)
      unfold grG at HIs
      have hd1 : decide (cl.m < (l'.length : Int)) = false := by simp; omega
      obtain ⟨_, _, _, _, _, _, _, _⟩ := hX9.cells
      clear hG hX hx hb hk9 HDo hc1 ha0 ha1 ha2 hl
      have hXL := Lib.hid (fun W (h : Below w9.heap.size w9 W) => (hX9.later h).cells)
      go_upto_region 12 with fail
      go_wp2_with fail
      refine HIs.out.mono ?_
      rintro e wz ⟨rfl, hkz⟩
      have hGz := hG9.later hkz
      have hXz := hX9.later hkz
      have hxz := hx9.later hkz
      have hbz := hb9.trans (hkz.mono hb9.size)
      obtain ⟨_, _, _, _, _, _, _, _⟩ := hXz.cells
      clear hG9 hX9 hx9 hb9 hkz HIs hXL
      go_wp2_with fail
      go_roundw
      case rel => exact ⟨k + 1, now + q, cm', gr', l', v', gv', ax', cx', by omega, by omega, by go_num, rfl, by omega, by push_cast; omega, hv7, by push_cast; omega, hGz, hXz, hxz, hl9, hbz⟩
      case measure => simp [intOf]; omega
    · by_cases hk1 : k < len2
      · have hk2 : k = 40 := by omega
        subst hk2
        go_wp2_with fail
        go_ret
        exact ⟨rfl, hb⟩
      · have hk2 : k = len2 := by omega
        subst hk2
        go_wp2_with fail
        go_ret
        exact ⟨rfl, hb⟩
end gapsPlay
end Go.Proofs.Ytdbmhgfdcdcgfaa
