/- gaps: the law's awake. -/
import Derived.Test.YtdbmhgfdcdcgfaaGpO
namespace Go.Proofs.Ytdbmhgfdcdcgfaa
open Go.RowKit
set_option linter.unusedVariables false
set_option linter.unusedSimpArgs false
theorem gp_reads_two (W : World) (x y : Int) (T : TypeId) : Reads .i64 (W.alloc (.cells #[.int .i64 x, .int .i64 y] T)) (some ⟨W.heap.size, 0, none⟩) [x, y] := by
  refine Or.inr ⟨_, _, rfl, fun i hi => ?_⟩
  match i, hi with
  | 0, _ => simp
  | 1, _ => simp
set_option maxRecDepth 100000 in
set_option maxHeartbeats 3200000 in
theorem gpAwake_any (w : World) : Calls Try.prog 7 #[] w fun e w' => e = .returned (.bool true) ∧ Below w.heap.size w w' := by
  go_enter Try.func7, Try.ntmps7
  go_wp2_with fail
  refine (gpNew_any ⟨5, 2, 3, 4⟩ w).mono ?_
  rintro e w1 ⟨gg, rfl, hG1, hb1⟩
  rw [show (⟨5, 2, 3, 4⟩ : GC).clip = ⟨5, 2, 3, 4⟩ from rfl] at hG1
  have h1 := gpCame_any hG1 (fun _ => rfl) 1 0 (by decide)
  rw [show cmU ⟨5, 2, 3, 4⟩ false 0 [] 1 = 0 from rfl, show cmG false 0 1 = 1 from rfl, show cmL ⟨5, 2, 3, 4⟩ false 0 [] 1 0 = [] from rfl] at h1
  go_wp2_with fail
  refine h1.mono ?_
  rintro e w2 ⟨rfl, ⟨v2, hG2⟩, hk2, _⟩
  have hb2 := hb1.trans hk2
  have h2 := gpCame_any hG2 (fun h => by cases h) 4 1 (by decide)
  rw [show cmU ⟨5, 2, 3, 4⟩ true 1 [] 4 = 0 from rfl, show cmG true 1 4 = 4 from rfl, show cmL ⟨5, 2, 3, 4⟩ true 1 [] 4 1 = [⟨2, 4, 0⟩, ⟨3, 4, 0⟩] from rfl] at h2
  clear h1 hG1 hb1 hk2
  go_wp2_with fail
  refine h2.mono ?_
  rintro e w3 ⟨rfl, ⟨v3, hG3⟩, hk3, _⟩
  have hb3 := hb2.trans hk3
  have h3 := gpNext_any hG3 ⟨2, 4, 0⟩ rfl
  rw [show gpMn (⟨2, 4, 0⟩ : GW).at_ [⟨2, 4, 0⟩, ⟨3, 4, 0⟩] = 4 from rfl] at h3
  clear h2 hG2 hb2 hk3
  go_wp2_with fail
  refine h3.mono ?_
  rintro e w4 ⟨rfl, hk4⟩
  have hG4 := hG3.later hk4
  have hb4 := hb3.trans (hk4.mono hb3.size)
  clear h3 hG3 hb3 hk4
  have hv : (0 : Int) + 0 + 0 = 0 := rfl
  rw [hv] at hG4
  clear hv
  have HW : Hid (∀ W, Below w4.heap.size w4 W → Calls Try.prog 17 #[.pointer (some ⟨gg, 0, none⟩)] W fun e w' => ∃ a c, e = .returned (.slice a 2 c) ∧ Reads .i64 w' a [2, 3] ∧ Below W.heap.size W w' ∧ Below w4.heap.size w4 w') := Lib.hid fun W hW => (gpWanting_any (hG4.later hW)).mono (by
    rintro e w' ⟨v', rfl, hO, hk⟩
    obtain ⟨a, c, rfl, _, _, _, hr⟩ := hO.intsG
    exact ⟨a, c, rfl, hr, hk, hW.trans (hk.mono hW.size)⟩)
  have HS : Hid (∀ W a a2 c c2, Reads .i64 W a [2, 3] → Reads .i64 W a2 [2, 3] → Below w4.heap.size w4 W → Calls Try.prog 20 #[.slice a 2 c, .slice a2 2 c2] W fun e w' => e = .returned (.bool true) ∧ Below w4.heap.size w4 w') := Lib.hid fun W a a2 c c2 h1 h2 hW => (sameIntG_any [2, 3] a a2 2 c c2 W rfl h1 h2 (by decide)).mono (by
    rintro e w' ⟨rfl, hk⟩
    exact ⟨rfl, hW.trans (hk.mono hW.size)⟩)
  have HD3 : Hid (∀ W, Below w4.heap.size w4 W → Calls Try.prog 15 #[.pointer (some ⟨gg, 0, none⟩), .int .i64 3] W fun e w' => ∃ a c v', e = .returned (.slice a 0 c) ∧ GIn w' w.heap.size gg ⟨5, 2, 3, 4⟩ true 4 v' [⟨2, 4, 0⟩, ⟨3, 4, 0⟩] 0 ∧ Below w.heap.size w w') := Lib.hid fun W hW => (gpDue_any (hG4.later hW) 3 (by decide)).mono (by
    rintro e w' ⟨dv, v', rfl, hO, hG, hk, _⟩
    obtain ⟨a, c, rfl⟩ := hO.formG
    exact ⟨a, c, v', rfl, hG, (hb4.trans (hW.mono hb4.size)).trans hk⟩)
  have HD4 : Hid (∀ W v, GIn W w.heap.size gg ⟨5, 2, 3, 4⟩ true 4 v [⟨2, 4, 0⟩, ⟨3, 4, 0⟩] 0 → Below w.heap.size w W → Calls Try.prog 15 #[.pointer (some ⟨gg, 0, none⟩), .int .i64 4] W fun e w' => ∃ a c, e = .returned (.slice a 2 c) ∧ Below w.heap.size w w') := Lib.hid fun W v hG hW => (gpDue_any hG 4 (by decide)).mono (by
    rintro e w' ⟨dv, v', rfl, hO, _, hk, _⟩
    obtain ⟨a, c, rfl⟩ := hO.formG
    exact ⟨a, c, rfl, hW.trans hk⟩)
  clear hG4 hb4
  go_wp2_with fail
  refine (HW.out w4 (Below.refl _ _)).mono ?_
  rintro e w7 ⟨a7, c7, rfl, hr7, hk7, hq7⟩
  go_wp2_with fail
  refine (HS.out (w7.alloc (.cells #[.int .i64 2, .int .i64 3] 3)) a7 _ c7 _ (hr7.later ((Below.refl _ _).alloc (Nat.le_refl _) _)) (gp_reads_two w7 2 3 _) (hq7.alloc hq7.size _)).mono ?_
  rintro e w8 ⟨rfl, hq8⟩
  go_wp2_with fail
  refine (HD3.out w8 hq8).mono ?_
  rintro e w9 ⟨a9, c9, v9, rfl, hG9, hq9⟩
  go_wp2_with fail
  refine (HD4.out w9 v9 hG9 hq9).mono ?_
  rintro e w10 ⟨a10, c10, rfl, hq10⟩
  go_wp2_with fail
  go_ret
  exact ⟨rfl, hq10⟩
end Go.Proofs.Ytdbmhgfdcdcgfaa
