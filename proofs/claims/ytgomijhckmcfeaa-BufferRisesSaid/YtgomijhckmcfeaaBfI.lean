/- buffer: Put in general. -/
import Derived.Test.YtgomijhckmcfeaaBfH
namespace Go.Proofs.Ytgomijhckmcfeaa
open Go.RowKit
set_option linter.unusedVariables false
set_option linter.unusedSimpArgs false
set_option maxHeartbeats 3200000 in
theorem bfPutLate {w : World} {base gb : Nat} {s : BS} {v : Value} {l : List BF} (h : BIn w base gb s v l) (t i c now : Int) (d : ByteArray) (ht0 : 0 ≤ t) (t1 : t ≤ 4294967295) (hlt : t < s.least) :
    Calls Try.prog 10 #[.pointer (some ⟨gb, 0, none⟩), .int .u32 t, .agg #[.int .i64 i, .int .i64 c], .string d, .int .i64 now] w fun e w' => ∃ (kd : Int) (gone : List BF) (s' : BS) (v' : Value) (l' : List BF) (ev : Value), e = .returned (.agg #[.int .i64 kd, ev]) ∧ PutEnd (am 1 s.cf 1024) (am 1 s.cp 65536) (am 1 s.cb 67108864) s l t i c d now kd gone s' l' ∧ OwnE w' w.heap.size 30 1 ev gone.length (bfTs gone) ∧ BIn w' base gb s' v' l' ∧ BKeep gb v l w w' v' l' ∧ Below base w w' := by
  have hbs := h.bs
  have hgw := AtS.lt h.at10
  have hX0 : AtS 43 ((w.alloc (.cells #[.int .i64 i, .int .i64 c] 43)).alloc (.cells #[.int .i64 0, .slice none 0 0] 40)) w.heap.size #[.int .i64 i, .int .i64 c] := AtS.later (atS_new _ w _ _ rfl) ((Below.refl _ _).alloc (Nat.le_refl _) _)
  have hX1 : AtS 40 ((w.alloc (.cells #[.int .i64 i, .int .i64 c] 43)).alloc (.cells #[.int .i64 0, .slice none 0 0] 40)) (w.heap.size + 1) #[.int .i64 0, .slice none 0 0] := atS_new _ _ _ _ (by simp)
  have hb : Below w.heap.size w ((w.alloc (.cells #[.int .i64 i, .int .i64 c] 43)).alloc (.cells #[.int .i64 0, .slice none 0 0] 40)) := ((Below.refl _ _).alloc (Nat.le_refl _) _).alloc (by simp) _
  go_enter Try.func10, Try.ntmps10
  go_upto_region 1 with fail
  generalize ((w.alloc (.cells #[.int .i64 i, .int .i64 c] 43)).alloc (.cells #[.int .i64 0, .slice none 0 0] 40)) = w2 at hX0 hX1 hb ⊢
  generalize hg1 : w.heap.size + 1 = g1 at hX1 ⊢
  generalize hg0 : w.heap.size = g0 at hX0 hb hg1 hgw ⊢
  have HG := Lib.hid hg0
  have hle1 : g0 ≤ g1 := by omega
  clear hg0 hg1
  have hI2 : BIn w2 base gb s v l := h.later (by rw [HG.out]; exact hb)
  have hK2 : BKeep gb v l w w2 v l := bKeep_below (by rw [HG.out]; exact hb)
  have hB2 : Below base w w2 := hb.mono (by omega)
  clear h
  obtain ⟨_, _⟩ := hX0.cells2
  obtain ⟨_, _⟩ := hX1.cells2
  have hf1 : ∀ i, w2.frozen? ⟨g1, i, none⟩ = false := fun i => AtS.free hX1 i
  have HOV : Hid (∀ W : World, W = w2 → Calls Try.prog 29 #[.pointer (some ⟨gb, 3, none⟩), .int .u32 t] W fun e w' => e = .returned (.bool true) ∧ w' = W) := Lib.hid (fun W e => by
    subst e
    have := bfOver_q hI2 t ht0 t1
    rw [show decide (t < s.least) = true from by rw [decide_eq_true_iff]; exact hlt] at this
    exact this)
  go_wp2_with fail
  refine (HOV.out _ rfl).mono ?_
  rintro e w' ⟨rfl, hq⟩
  subst hq
  go_wp2_with fail
  have hoz : Only g1 w' ((w'.setCell ⟨g1, 0, none⟩ (.int .i64 5)).setCell ⟨g1, 1, none⟩ (.slice none 0 0)) := ((Only.refl g1 w').setCell 0 _).setCell 1 _
  have hZ := at2_set hX1 (.int .i64 5) (.slice none 0 0)
  obtain ⟨z0, z1⟩ := hZ.cells2
  refine bodyPost_ret (v := .agg #[.int .i64 5, .slice none 0 0]) (by simp [results, Try.results10, go_sem, z0, z1]) rfl ⟨5, [], s, v, l, .slice none 0 0, rfl, .late hlt, ownE_nil _ _ _ _, hI2.other hX1 hoz (by decide) (by decide) (by decide), hK2.only hoz (by rw [HG.out]; exact hle1), hB2.trans (hoz.below (by omega))⟩
set_option maxHeartbeats 3200000 in
theorem bfPutBad {w : World} {base gb : Nat} {s : BS} {v : Value} {l : List BF} (h : BIn w base gb s v l) (t i c now : Int) (d : ByteArray) (t0 : s.least ≤ t) (t1 : t ≤ 4294967295) (hbad : ¬ (c ≤ 255 ∧ 0 ≤ i ∧ i < c)) :
    Calls Try.prog 10 #[.pointer (some ⟨gb, 0, none⟩), .int .u32 t, .agg #[.int .i64 i, .int .i64 c], .string d, .int .i64 now] w fun e w' => ∃ (kd : Int) (gone : List BF) (s' : BS) (v' : Value) (l' : List BF) (ev : Value), e = .returned (.agg #[.int .i64 kd, ev]) ∧ PutEnd (am 1 s.cf 1024) (am 1 s.cp 65536) (am 1 s.cb 67108864) s l t i c d now kd gone s' l' ∧ OwnE w' w.heap.size 30 1 ev gone.length (bfTs gone) ∧ BIn w' base gb s' v' l' ∧ BKeep gb v l w w' v' l' ∧ Below base w w' := by
  have ht0 : 0 ≤ t := by have := h.up.l0; omega
  have hbs := h.bs
  have hgw := AtS.lt h.at10
  have hX0 : AtS 43 ((w.alloc (.cells #[.int .i64 i, .int .i64 c] 43)).alloc (.cells #[.int .i64 0, .slice none 0 0] 40)) w.heap.size #[.int .i64 i, .int .i64 c] := AtS.later (atS_new _ w _ _ rfl) ((Below.refl _ _).alloc (Nat.le_refl _) _)
  have hX1 : AtS 40 ((w.alloc (.cells #[.int .i64 i, .int .i64 c] 43)).alloc (.cells #[.int .i64 0, .slice none 0 0] 40)) (w.heap.size + 1) #[.int .i64 0, .slice none 0 0] := atS_new _ _ _ _ (by simp)
  have hb : Below w.heap.size w ((w.alloc (.cells #[.int .i64 i, .int .i64 c] 43)).alloc (.cells #[.int .i64 0, .slice none 0 0] 40)) := ((Below.refl _ _).alloc (Nat.le_refl _) _).alloc (by simp) _
  go_enter Try.func10, Try.ntmps10
  go_upto_region 1 with fail
  generalize ((w.alloc (.cells #[.int .i64 i, .int .i64 c] 43)).alloc (.cells #[.int .i64 0, .slice none 0 0] 40)) = w2 at hX0 hX1 hb ⊢
  generalize hg1 : w.heap.size + 1 = g1 at hX1 ⊢
  generalize hg0 : w.heap.size = g0 at hX0 hb hg1 hgw ⊢
  have HG := Lib.hid hg0
  have hle1 : g0 ≤ g1 := by omega
  clear hg0 hg1
  have hI2 : BIn w2 base gb s v l := h.later (by rw [HG.out]; exact hb)
  have hK2 : BKeep gb v l w w2 v l := bKeep_below (by rw [HG.out]; exact hb)
  have hB2 : Below base w w2 := hb.mono (by omega)
  clear h
  obtain ⟨_, _⟩ := hX0.cells2
  obtain ⟨_, _⟩ := hX1.cells2
  have hf1 : ∀ i, w2.frozen? ⟨g1, i, none⟩ = false := fun i => AtS.free hX1 i
  have HOV : Hid (∀ W : World, W = w2 → Calls Try.prog 29 #[.pointer (some ⟨gb, 3, none⟩), .int .u32 t] W fun e w' => e = .returned (.bool false) ∧ w' = W) := Lib.hid (fun W e => by
    subst e
    have := bfOver_q hI2 t ht0 t1
    rw [show decide (t < s.least) = false from by rw [decide_eq_false_iff_not]; omega] at this
    exact this)
  go_wp2_with fail
  refine (HOV.out _ rfl).mono ?_
  rintro e w' ⟨rfl, hq⟩
  subst hq
  by_cases h1 : 255 < c
  · have d1 : decide ((255 : Int) < c) = true := decide_eq_true h1
    go_wp2_with fail
    have hoz : Only g1 w' ((w'.setCell ⟨g1, 0, none⟩ (.int .i64 4)).setCell ⟨g1, 1, none⟩ (.slice none 0 0)) := ((Only.refl g1 w').setCell 0 _).setCell 1 _
    have hZ := at2_set hX1 (.int .i64 4) (.slice none 0 0)
    obtain ⟨z0, z1⟩ := hZ.cells2
    refine bodyPost_ret (v := .agg #[.int .i64 4, .slice none 0 0]) (by simp [results, Try.results10, go_sem, z0, z1]) rfl ⟨4, [], s, v, l, .slice none 0 0, rfl, .bad t0 hbad, ownE_nil _ _ _ _, hI2.other hX1 hoz (by decide) (by decide) (by decide), hK2.only hoz (by rw [HG.out]; exact hle1), hB2.trans (hoz.below (by omega))⟩
  · have d1 : decide ((255 : Int) < c) = false := decide_eq_false h1
    by_cases h2 : i < 0
    · have d2 : decide (i < 0) = true := decide_eq_true h2
      go_wp2_with fail
      have hoz : Only g1 w' ((w'.setCell ⟨g1, 0, none⟩ (.int .i64 4)).setCell ⟨g1, 1, none⟩ (.slice none 0 0)) := ((Only.refl g1 w').setCell 0 _).setCell 1 _
      have hZ := at2_set hX1 (.int .i64 4) (.slice none 0 0)
      obtain ⟨z0, z1⟩ := hZ.cells2
      refine bodyPost_ret (v := .agg #[.int .i64 4, .slice none 0 0]) (by simp [results, Try.results10, go_sem, z0, z1]) rfl ⟨4, [], s, v, l, .slice none 0 0, rfl, .bad t0 hbad, ownE_nil _ _ _ _, hI2.other hX1 hoz (by decide) (by decide) (by decide), hK2.only hoz (by rw [HG.out]; exact hle1), hB2.trans (hoz.below (by omega))⟩
    · have d2 : decide (i < 0) = false := decide_eq_false h2
      have d3 : decide (c ≤ i) = true := decide_eq_true (by omega)
      go_wp2_with fail
      have hoz : Only g1 w' ((w'.setCell ⟨g1, 0, none⟩ (.int .i64 4)).setCell ⟨g1, 1, none⟩ (.slice none 0 0)) := ((Only.refl g1 w').setCell 0 _).setCell 1 _
      have hZ := at2_set hX1 (.int .i64 4) (.slice none 0 0)
      obtain ⟨z0, z1⟩ := hZ.cells2
      refine bodyPost_ret (v := .agg #[.int .i64 4, .slice none 0 0]) (by simp [results, Try.results10, go_sem, z0, z1]) rfl ⟨4, [], s, v, l, .slice none 0 0, rfl, .bad t0 hbad, ownE_nil _ _ _ _, hI2.other hX1 hoz (by decide) (by decide) (by decide), hK2.only hoz (by rw [HG.out]; exact hle1), hB2.trans (hoz.below (by omega))⟩
theorem bfPut_any {w : World} {base gb : Nat} {s : BS} {v : Value} {l : List BF} (h : BIn w base gb s v l) (t i c now : Int) (d : ByteArray) (ht0 : 0 ≤ t) (t1 : t ≤ 4294967295) (hln : l.length ≤ 90000) (hp : bfParts l ≤ 549755813888) (hby : bfBytes l + d.size ≤ 549755813888) (e0 : 0 ≤ s.ev) (e1 : s.ev ≤ 549755813888) :
    Calls Try.prog 10 #[.pointer (some ⟨gb, 0, none⟩), .int .u32 t, .agg #[.int .i64 i, .int .i64 c], .string d, .int .i64 now] w fun e w' => ∃ (kd : Int) (gone : List BF) (s' : BS) (v' : Value) (l' : List BF) (ev : Value), e = .returned (.agg #[.int .i64 kd, ev]) ∧ PutEnd (am 1 s.cf 1024) (am 1 s.cp 65536) (am 1 s.cb 67108864) s l t i c d now kd gone s' l' ∧ OwnE w' w.heap.size 30 1 ev gone.length (bfTs gone) ∧ BIn w' base gb s' v' l' ∧ BKeep gb v l w w' v' l' ∧ Below base w w' := by
  by_cases hlt : t < s.least
  · exact bfPutLate h t i c now d ht0 t1 hlt
  · by_cases hg : c ≤ 255 ∧ 0 ≤ i ∧ i < c
    · exact bfPutGo h t i c now d hln hp hby e0 e1 (by omega) t1 hg.1 hg.2.1 hg.2.2
    · exact bfPutBad h t i c now d (by omega) t1 hg
end Go.Proofs.Ytgomijhckmcfeaa
