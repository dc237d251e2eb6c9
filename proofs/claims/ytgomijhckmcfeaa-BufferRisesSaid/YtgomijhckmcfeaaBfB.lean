/- buffer: among, tick, Clip, New, over, Horizon, Counts, Len, Packets, Bytes; BinarySearchFunc over frames. -/
import Derived.Test.YtgomijhckmcfeaaBfA
import Derived.Test.YtgomijhckmcfeaaGaB
import Derived.Deep.RegionHeld3
import Derived.Deep.QuietTactic
import Derived.BigQuiet
import Derived.Deep.DeepCutAuto
import Derived.Deep.CutBlock
import Derived.RegionTactic
import Derived.BigRegion
import Derived.Deep.RegionWith
namespace Go.Proofs.Ytgomijhckmcfeaa
open Go.RowKit
set_option linter.unusedVariables false
set_option linter.unusedSimpArgs false
theorem bfAmong_q (a n b : Int) (w : World) : Calls Try.prog 33 #[.int .i64 a, .int .i64 n, .int .i64 b] w fun e w' => e = .returned (.int .i64 (am a n b)) ∧ w' = w := by
  go_enter Try.func33, Try.ntmps33
  go_wp2
  go_ret
  exact ⟨rfl, rfl⟩
theorem bfTick_q (n : Int) (w : World) : Calls Try.prog 23 #[.int .i64 n] w fun e w' => e = .returned (.int .i64 (am 0 n 1099511627776)) ∧ w' = w := by
  go_enter Try.func23, Try.ntmps23
  go_wp2_with fail
  refine (bfAmong_q _ _ _ _).mono ?_
  rintro e w' ⟨rfl, rfl⟩
  go_wp2
  go_ret
  exact ⟨rfl, rfl⟩
set_option maxHeartbeats 1600000 in
theorem bfClip_any (a b c : Int) (w : World) : Calls Try.prog 15 #[.agg #[.int .i64 a, .int .i64 b, .int .i64 c]] w fun e w' => e = .returned (.agg #[.int .i64 (am 1 a 1024), .int .i64 (am 1 b 65536), .int .i64 (am 1 c 67108864)]) ∧ Below w.heap.size w w' := by
  have hX0 : At3 28 ((w.alloc (.cells #[.int .i64 a, .int .i64 b, .int .i64 c] 28)).alloc (.cells #[.int .i64 0, .int .i64 0, .int .i64 0] 28)) w.heap.size (.int .i64 a) (.int .i64 b) (.int .i64 c) := (at3_new _ w _ _ _ _ rfl).alloc _
  have hX1 : At3 28 ((w.alloc (.cells #[.int .i64 a, .int .i64 b, .int .i64 c] 28)).alloc (.cells #[.int .i64 0, .int .i64 0, .int .i64 0] 28)) (w.heap.size + 1) (.int .i64 0) (.int .i64 0) (.int .i64 0) := at3_new _ _ _ _ _ _ (by simp)
  have hb : Below w.heap.size w ((w.alloc (.cells #[.int .i64 a, .int .i64 b, .int .i64 c] 28)).alloc (.cells #[.int .i64 0, .int .i64 0, .int .i64 0] 28)) := ((Below.refl _ _).alloc (Nat.le_refl _) _).alloc (by simp) _
  go_enter Try.func15, Try.ntmps15
  go_upto_region 1 with fail
  generalize ((w.alloc (.cells #[.int .i64 a, .int .i64 b, .int .i64 c] 28)).alloc (.cells #[.int .i64 0, .int .i64 0, .int .i64 0] 28)) = w2 at hX0 hX1 hb ⊢
  generalize hg1 : w.heap.size + 1 = g1 at hX1 ⊢
  generalize hg0 : w.heap.size = g0 at hX0 hb hg1 ⊢
  have hne01 : g0 ≠ g1 := by omega
  have hle1 : g0 ≤ g1 := by omega
  have HG := Lib.hid hg0
  clear hg0 hg1
  obtain ⟨_, _, _⟩ := hX0.cells
  obtain ⟨_, _, _⟩ := hX1.frees
  obtain ⟨_, _, _⟩ := hX1.cells
  have hK : ∀ u0 u1 u2 : Value, (((w2.drew.setCell ⟨g1, 0, none⟩ u0).setCell ⟨g1, 1, none⟩ u1).setCell ⟨g1, 2, none⟩ u2).cell? ⟨g0, 0, none⟩ = some (.int .i64 a) ∧ (((w2.drew.setCell ⟨g1, 0, none⟩ u0).setCell ⟨g1, 1, none⟩ u1).setCell ⟨g1, 2, none⟩ u2).cell? ⟨g0, 1, none⟩ = some (.int .i64 b) ∧ (((w2.drew.setCell ⟨g1, 0, none⟩ u0).setCell ⟨g1, 1, none⟩ u1).setCell ⟨g1, 2, none⟩ u2).cell? ⟨g0, 2, none⟩ = some (.int .i64 c) := fun u0 u1 u2 => (hX0.drew.only hne01 (store3_only _ _ _ _ _)).cells
  go_region_held3 (fun W => W.cell? ⟨g0, 0, none⟩ = some (.int .i64 a) ∧ W.cell? ⟨g0, 1, none⟩ = some (.int .i64 b) ∧ W.cell? ⟨g0, 2, none⟩ = some (.int .i64 c)) (first | (go_keep; done) | exact hX0.drew.cells | exact hK _ _ _) (first | (go_at_call 33; refine (bfAmong_q _ _ _ _).mono ?_; rintro e w' ⟨rfl, rfl⟩))
  all_goals
    have hZ := at3_store hX1 (.int .i64 (am 1 a 1024)) (.int .i64 (am 1 b 65536)) (.int .i64 (am 1 c 67108864))
    have hbz := hb.trans ((store3_only w2 g1 (.int .i64 (am 1 a 1024)) (.int .i64 (am 1 b 65536)) (.int .i64 (am 1 c 67108864))).below hle1)
    obtain ⟨d0, d1, d2⟩ := hZ.cells
    go_wp2_with fail
    refine bodyPost_ret (v := .agg #[.int .i64 (am 1 a 1024), .int .i64 (am 1 b 65536), .int .i64 (am 1 c 67108864)]) (by simp [results, Try.results15, go_sem, d0, d1, d2]) rfl ⟨rfl, by rw [HG.out]; exact hbz.drew⟩
set_option maxHeartbeats 800000 in
theorem bfNew_any (a b c : Int) (w : World) : Calls Try.prog 8 #[.agg #[.int .i64 a, .int .i64 b, .int .i64 c]] w fun e w' => ∃ gb, e = .returned (.pointer (some ⟨gb, 0, none⟩)) ∧ BIn w' w.heap.size gb ⟨am 1 a 1024, am 1 b 65536, am 1 c 67108864, 0, 0, 0, 0⟩ (.slice none 0 0) [] ∧ Below w.heap.size w w' := by
  have HC := Lib.hid (fun W => bfClip_any a b c W)
  generalize am 1 a 1024 = a' at HC ⊢
  generalize am 1 b 65536 = b' at HC ⊢
  generalize am 1 c 67108864 = c' at HC ⊢
  have hX := at3_new 28 w w.heap.size (.int .i64 a) (.int .i64 b) (.int .i64 c) rfl
  have hb : Below w.heap.size w (w.alloc (.cells #[.int .i64 a, .int .i64 b, .int .i64 c] 28)) := (Below.refl _ _).alloc (Nat.le_refl _) _
  go_enter Try.func8, Try.ntmps8
  go_upto_region 1 with fail
  generalize (w.alloc (.cells #[.int .i64 a, .int .i64 b, .int .i64 c] 28)) = w2 at hX hb ⊢
  generalize hg0 : w.heap.size = g0 at hX hb ⊢
  have HG := Lib.hid hg0
  clear hg0
  obtain ⟨_, _, _⟩ := hX.cells
  have hl := hX.lt
  go_wp2_with fail
  refine (HC.out _).mono ?_
  rintro e w3 ⟨rfl, hk3⟩
  have hb3 := hb.trans (hk3.mono (by omega))
  have hl3 : g0 ≤ w3.heap.size := by have := hk3.size; omega
  go_wp2_with fail
  go_ret
  rw [HG.out]
  exact ⟨_, rfl, ⟨hl3, atS_new _ _ _ _ rfl, ownE_nil _ _ _ _, FrIn.nil _ _, ⟨List.Pairwise.nil, by simp, Int.le_refl _, by simp⟩⟩, hb3.alloc hl3 _⟩
section
variable {w : World} {base gb : Nat} {s : BS} {v : Value} {l : List BF}
theorem bfOver_q (h : BIn w base gb s v l) (t : Int) (t0 : 0 ≤ t) (t1 : t ≤ 4294967295) : Calls Try.prog 29 #[.pointer (some ⟨gb, 3, none⟩), .int .u32 t] w fun e w' => e = .returned (.bool (decide (t < s.least))) ∧ w' = w := by
  obtain ⟨cf, cp, cb, least, pl, dr, ev⟩ := s
  obtain ⟨_, _, _, _, _, _, _, _, _, _⟩ := AtS.cells10 h.at10
  have hw : IntKind.i64.wrap t = t := IntWalk.i64_in _ ⟨by omega, by omega⟩
  go_enter Try.func29, Try.ntmps29
  go_wp2
  go_ret
  exact ⟨rfl, rfl⟩
theorem bfHor_q (h : BIn w base gb s v l) (h1 : s.least ≤ 4294967296) : Calls Try.prog 13 #[.pointer (some ⟨gb, 3, none⟩)] w fun e w' => e = .returned (.int .i64 (s.least - 1)) ∧ w' = w := by
  obtain ⟨cf, cp, cb, least, pl, dr, ev⟩ := s
  obtain ⟨_, _, _, _, _, _, _, _, _, _⟩ := AtS.cells10 h.at10
  have h0 := h.up.l0
  simp only at h0 h1
  have hw : IntKind.i64.wrap (least - 1) = least - 1 := IntWalk.i64_in _ ⟨by omega, by omega⟩
  clear h0 h1
  go_enter Try.func13, Try.ntmps13
  go_wp2
  go_ret
  exact ⟨rfl, rfl⟩
theorem bfCounts_any (h : BIn w base gb s v l) : Calls Try.prog 39 #[.pointer (some ⟨gb, 3, none⟩)] w fun e w' => e = .returned (.tuple #[.int .i64 s.pl, .int .i64 s.dr, .int .i64 s.ev]) ∧ Below w.heap.size w w' := by
  obtain ⟨cf, cp, cb, least, pl, dr, ev⟩ := s
  obtain ⟨_, _, _, _, _, _, _, _, _, _⟩ := AtS.cells10 h.at10
  go_enter Try.func39, Try.ntmps39
  go_wp2
  go_quiet (fail)
  go_wp2
  refine bodyPost_ret (v := .tuple #[.int .i64 pl, .int .i64 dr, .int .i64 ev]) (by simp [results, Try.results39, go_sem]) rfl ⟨rfl, ⟨rfl, rfl, rfl, Nat.le_refl _, fun _ _ => rfl⟩⟩
theorem bfLen_q (h : BIn w base gb s v l) : Calls Try.prog 19 #[.pointer (some ⟨gb, 0, none⟩)] w fun e w' => e = .returned (.int .i64 l.length) ∧ w' = w := by
  obtain ⟨a, c, rfl⟩ := h.own.formG
  obtain ⟨cf, cp, cb, least, pl, dr, ev⟩ := s
  obtain ⟨_, _, _, _, _, _, _, _, _, _⟩ := AtS.cells10 h.at10
  go_enter Try.func19, Try.ntmps19
  go_wp2
  go_ret
  exact ⟨rfl, rfl⟩
theorem bfPackets_q (h : BIn w base gb s v l) : Calls Try.prog 20 #[.pointer (some ⟨gb, 0, none⟩)] w fun e w' => e = .returned (.int .i64 (bfParts l)) ∧ w' = w := by
  obtain ⟨cf, cp, cb, least, pl, dr, ev⟩ := s
  obtain ⟨_, _, _, _, _, _, _, _, _, _⟩ := AtS.cells10 h.at10
  go_enter Try.func20, Try.ntmps20
  go_wp2
  go_ret
  exact ⟨rfl, rfl⟩
theorem bfBytes_q (h : BIn w base gb s v l) : Calls Try.prog 21 #[.pointer (some ⟨gb, 0, none⟩)] w fun e w' => e = .returned (.int .i64 (bfBytes l)) ∧ w' = w := by
  obtain ⟨cf, cp, cb, least, pl, dr, ev⟩ := s
  obtain ⟨_, _, _, _, _, _, _, _, _, _⟩ := AtS.cells10 h.at10
  go_enter Try.func21, Try.ntmps21
  go_wp2
  go_ret
  exact ⟨rfl, rfl⟩
end
def bfCmp (a b : Int) : Int := if a < b then -1 else if b < a then 1 else 0
theorem bfCmp_lt (a b : Int) : bfCmp a b < 0 ↔ a < b := by
  unfold bfCmp
  split
  · omega
  · split <;> omega
theorem bfCmp_z (a b : Int) : bfCmp a b = 0 ↔ a = b := by
  unfold bfCmp
  split
  · omega
  · split <;> omega
theorem bfNaN_q (a : Int) (w : World) : Calls Try.prog 61 #[.int .u32 a] w fun e w' => e = .returned (.bool false) ∧ w' = w := by
  go_enter Try.func61, Try.ntmps61
  go_wp2
  go_ret
  exact ⟨by simp, rfl⟩
theorem bfCompare_q (a b : Int) (w : World) : Calls Try.prog 49 #[.int .u32 a, .int .u32 b] w fun e w' => e = .returned (.int .i64 (bfCmp a b)) ∧ w' = w := by
  have e : bfCmp a b = if a < b then -1 else if b < a then 1 else 0 := rfl
  rcases Int.lt_trichotomy a b with h | h | h
  · rw [if_pos h] at e
    rw [e]
    go_enter Try.func49, Try.ntmps49
    go_wp2_with (first | (go_at_call 61; refine (bfNaN_q _ _).mono ?_; rintro e w' ⟨rfl, rfl⟩))
    go_ret
    exact ⟨rfl, rfl⟩
  · subst h
    have e0 : bfCmp a a = 0 := by rw [e, if_neg (by omega), if_neg (by omega)]
    rw [e0]
    have h1 : ¬ (a < a) := by omega
    go_enter Try.func49, Try.ntmps49
    go_wp2_with (first | (go_at_call 61; refine (bfNaN_q _ _).mono ?_; rintro e w' ⟨rfl, rfl⟩))
    go_ret
    exact ⟨rfl, rfl⟩
  · rw [if_neg (by omega), if_pos h] at e
    rw [e]
    have h1 : ¬ (a < b) := by omega
    go_enter Try.func49, Try.ntmps49
    go_wp2_with (first | (go_at_call 61; refine (bfNaN_q _ _).mono ?_; rintro e w' ⟨rfl, rfl⟩))
    go_ret
    exact ⟨rfl, rfl⟩
end Go.Proofs.Ytgomijhckmcfeaa
