/- buffer: Put, walked. -/
import Derived.Test.YtgomijhckmcfeaaBfH0
import Derived.Test.YtgomijhckmcfeaaOrdM
namespace Go.Proofs.Ytgomijhckmcfeaa
open Go.RowKit
set_option linter.unusedVariables false
set_option linter.unusedSimpArgs false
section
variable {W W' : World} {base gb : Nat} {s : BS} {pa bt : Int} {v : Value} {l : List BF}
theorem BMd.foot_of (h : BMd W base gb s pa bt v l) {k : Nat} (hf : Foot gb v l k) : (∃ cs T, W.heap[k]? = some (.cells cs T (0, 0)) ∧ (T = 51 ∨ T = 66 ∨ T = 95)) ∨ ∃ es cl, W.heap[k]? = some (.map es cl) := by
  rcases hf with rfl | e | ⟨x, hx, e | e⟩
  · exact .inl ⟨_, _, h.at10, .inl rfl⟩
  · obtain ⟨cs, hcs⟩ := h.own.2 _ e
    exact .inl ⟨_, _, hcs, .inr (.inl rfl)⟩
  · subst e
    exact .inl ⟨_, _, (h.fr.fr x hx).at5, .inr (.inr rfl)⟩
  · exact .inr ((h.fr.fr x hx).isMap _ e)
theorem BMd.keep (h : BMd W base gb s pa bt v l) (hs : W.heap.size ≤ W'.heap.size) (hb : ∀ k, Foot gb v l k → W'.heap[k]? = W.heap[k]?) : BMd W' base gb s pa bt v l :=
  ⟨h.bs, by have := h.at10; unfold BS.at AtS at this ⊢; rw [hb gb (.inl rfl)]; exact this, h.own.keep hs (fun k cs hk _ => hb k (.inr (.inl hk))), h.fr.same (fun x hx => ⟨hb _ (.inr (.inr ⟨x, hx, .inl rfl⟩)), fun b e => hb b (.inr (.inr ⟨x, hx, .inr e⟩))⟩), h.up⟩
theorem BMd.foot_lt (h : BMd W base gb s pa bt v l) {k : Nat} (hf : Foot gb v l k) : k < W.heap.size := by
  rcases h.foot_of hf with ⟨_, _, h, _⟩ | ⟨_, _, h⟩ <;> exact lt_of_block h
theorem BMd.later (h : BMd W base gb s pa bt v l) (hb : Below W.heap.size W W') : BMd W' base gb s pa bt v l := h.keep hb.size (fun k hf => hb.block k (h.foot_lt hf))
/-- A block of another type is written. -/
theorem BMd.other (h : BMd W base gb s pa bt v l) {g : Nat} {cs : Array Value} {T : TypeId} (hg : W.heap[g]? = some (.cells cs T (0, 0))) (ho : Only g W W') (h1 : T ≠ 51) (h2 : T ≠ 66) (h3 : T ≠ 95) : BMd W' base gb s pa bt v l ∧ BKeep gb v l W W' v l ∨ BMd W' base gb s pa bt v l :=
  .inr (h.keep (by rw [ho.size]; exact Nat.le_refl _) (fun k hf => ho.block k (fun e => by
    subst e
    rcases h.foot_of hf with ⟨cs', T', hc', hT⟩ | ⟨es, cl, hm⟩
    · rw [hg] at hc'
      simp only [Option.some.injEq, Obj.cells.injEq] at hc'
      rw [← hc'.2.1] at hT
      rcases hT with e | e | e
      · exact h1 e
      · exact h2 e
      · exact h3 e
    · rw [hg] at hm
      cases hm)))
end
theorem at2_set {T : TypeId} {W : World} {g : Nat} {c0 c1 : Value} (h : AtS T W g #[c0, c1]) (u0 u1 : Value) : AtS T ((W.setCell ⟨g, 0, none⟩ u0).setCell ⟨g, 1, none⟩ u1) g #[u0, u1] := block_setCell (block_setCell h)
theorem BMd.setc {W W' : World} {base gb : Nat} {s : BS} {pa bt pa' bt' : Int} {v : Value} {l : List BF} (h : BMd W base gb s pa bt v l) (ho : Only gb W W') (ha : s.at W' gb pa' bt' v) : BMd W' base gb s pa' bt' v l := by
  refine ⟨h.bs, ha, h.own.keep (by rw [ho.size]; exact Nat.le_refl _) (fun k cs hk hc => ho.block k (fun e => ?_)), h.fr.same (fun x hx => ⟨ho.block _ (fun e => ?_), fun b hb => ho.block _ (fun e => ?_)⟩), h.up⟩
  · rw [e] at hc
    exact blk_ne h.at10 hc (by decide) rfl
  · have := (h.fr.fr x hx).at5
    rw [e] at this
    exact blk_ne h.at10 this (by decide) rfl
  · obtain ⟨es, cl, hm⟩ := (h.fr.fr x hx).isMap b hb
    rw [e] at hm
    exact blk_map h.at10 hm rfl
theorem SpPut.two {P P' : List (Option ByteArray)} {i c r : Int} {d : ByteArray} (h : SpPut P i c d P' r) : (((r = 1 ∨ r = 2) ∧ decide (r < 3) = true) ∧ spH P' = spH P + 1 ∧ spB P' = spB P + d.size) ∨ (((r = 3 ∨ r = 4) ∧ decide (r < 3) = false) ∧ spH P' = spH P ∧ spB P' = spB P) := by
  cases h with
  | bad h => exact .inr ⟨⟨.inr rfl, by decide⟩, rfl, rfl⟩
  | twice k s hi hc h => exact .inr ⟨⟨.inl rfl, by decide⟩, rfl, rfl⟩
  | kept k hi hc h =>
    refine .inl ⟨?_, spH_set P k d h, spB_set P k d h⟩
    split
    · exact ⟨.inr rfl, by decide⟩
    · exact ⟨.inl rfl, by decide⟩
theorem BIn.other {W W' : World} {base gb : Nat} {s : BS} {v : Value} {l : List BF} (h : BIn W base gb s v l) {g : Nat} {cs : Array Value} {T : TypeId} (hg : W.heap[g]? = some (.cells cs T (0, 0))) (ho : Only g W W') (h1 : T ≠ 51) (h2 : T ≠ 66) (h3 : T ≠ 95) : BIn W' base gb s v l :=
  h.keep (by rw [ho.size]; exact Nat.le_refl _) (fun k hf => ho.block k (fun e => by
    subst e
    rcases h.foot_of hf with ⟨cs', T', hc', hT⟩ | ⟨es, cl, hm⟩
    · rw [hg] at hc'
      simp only [Option.some.injEq, Obj.cells.injEq] at hc'
      rw [← hc'.2.1] at hT
      rcases hT with e | e | e
      · exact h1 e
      · exact h2 e
      · exact h3 e
    · rw [hg] at hm
      cases hm))
theorem OwnE.other {W W' : World} {b : Nat} {e : TypeId} {size : Nat} {v : Value} {n : Nat} {xs : List Value} (h : OwnE W b e size v n xs) {g : Nat} {cs : Array Value} {T : TypeId} (hg : W.heap[g]? = some (.cells cs T (0, 0))) (ho : Only g W W') (hT : T ≠ e) : OwnE W' b e size v n xs :=
  h.keep (by rw [ho.size]; exact Nat.le_refl _) (fun k cs hk hc => ho.block k (fun e => by rw [e] at hc; exact blk_ne hg hc hT rfl))
theorem at2_set0 {T : TypeId} {W : World} {g : Nat} {c0 c1 : Value} (h : AtS T W g #[c0, c1]) (u : Value) : AtS T (W.setCell ⟨g, 0, none⟩ u) g #[u, c1] := block_setCell h
theorem at2_set1 {T : TypeId} {W : World} {g : Nat} {c0 c1 : Value} (h : AtS T W g #[c0, c1]) (u : Value) : AtS T (W.setCell ⟨g, 1, none⟩ u) g #[c0, u] := block_setCell h
/-- What is behind the frame's Put. -/
def PutMid (w2 : World) (base gb N g1 : Nat) (s : BS) (v : Value) (l : List BF) (t i c now : Int) (d : ByteArray) (z : Value) (wx : World) : Prop :=
  ∃ (g2 k : Nat) (x : BF) (v' : Value) (l1 : List BF) (m : Option Nat) (P' : List (Option ByteArray)) (r : Int), z = .pointer (some ⟨g2, 0, none⟩) ∧ FrEnd l t c now k x l1 ∧ SpPut x.P i c d P' r ∧ AtS 40 wx g2 #[.int .i64 r, .slice none 0 0] ∧ BMd wx base gb s (bfParts l1) (bfBytes l1) v' (l1.set k (x.with m P')) ∧ BKeep gb v l w2 wx v' (l1.set k (x.with m P')) ∧ Below base w2 wx ∧ N ≤ g2 ∧ g2 ≠ g1
theorem BKeep.later {gb : Nat} {v v' : Value} {l l' : List BF} {w w' w'' : World} (h : BKeep gb v l w w' v' l') (hb : Below w'.heap.size w' w'') : BKeep gb v l w w'' v' l' := h.trans (bKeep_below hb)
/-- One block behind w is written. -/
theorem BKeep.only {gb g : Nat} {v v' : Value} {l l' : List BF} {w w' w'' : World} (h : BKeep gb v l w w' v' l') (ho : Only g w' w'') (hg : w.heap.size ≤ g) : BKeep gb v l w w'' v' l' :=
  ⟨by rw [ho.size]; exact h.size, fun k hk hf => by rw [ho.block k (by omega)]; exact h.block k hk hf, h.foot⟩
set_option maxRecDepth 100000 in
set_option maxHeartbeats 12800000 in
theorem bfPutGo {w : World} {base gb : Nat} {s : BS} {v : Value} {l : List BF} (h : BIn w base gb s v l) (t i c now : Int) (d : ByteArray) (hln : l.length ≤ 90000) (hp : bfParts l ≤ 549755813888) (hby : bfBytes l + d.size ≤ 549755813888) (e0 : 0 ≤ s.ev) (e1 : s.ev ≤ 549755813888) (t0 : s.least ≤ t) (t1 : t ≤ 4294967295) (hc : c ≤ 255) (hi : 0 ≤ i) (hic : i < c) :
    Calls Try.prog 10 #[.pointer (some ⟨gb, 0, none⟩), .int .u32 t, .agg #[.int .i64 i, .int .i64 c], .string d, .int .i64 now] w fun e w' => ∃ (kd : Int) (gone : List BF) (s' : BS) (v' : Value) (l' : List BF) (ev : Value), e = .returned (.agg #[.int .i64 kd, ev]) ∧ PutEnd (am 1 s.cf 1024) (am 1 s.cp 65536) (am 1 s.cb 67108864) s l t i c d now kd gone s' l' ∧ OwnE w' w.heap.size 30 1 ev gone.length (bfTs gone) ∧ BIn w' base gb s' v' l' ∧ BKeep gb v l w w' v' l' ∧ Below base w w' := by
  have ht0 : 0 ≤ t := by have := h.up.l0; omega
  have hbs := h.bs
  have hgw := AtS.lt h.at10
  have hX0 : AtS 43 ((w.alloc (.cells #[.int .i64 i, .int .i64 c] 43)).alloc (.cells #[.int .i64 0, .slice none 0 0] 40)) w.heap.size #[.int .i64 i, .int .i64 c] := AtS.later (atS_new _ w _ _ rfl) ((Below.refl _ _).alloc (Nat.le_refl _) _)
  have hX1 : AtS 40 ((w.alloc (.cells #[.int .i64 i, .int .i64 c] 43)).alloc (.cells #[.int .i64 0, .slice none 0 0] 40)) (w.heap.size + 1) #[.int .i64 0, .slice none 0 0] := atS_new _ _ _ _ (by simp)
  have hb : Below w.heap.size w ((w.alloc (.cells #[.int .i64 i, .int .i64 c] 43)).alloc (.cells #[.int .i64 0, .slice none 0 0] 40)) := ((Below.refl _ _).alloc (Nat.le_refl _) _).alloc (by simp) _
  go_enter Try.func10, Try.ntmps10
  go_upto_region 1 with fail
  generalize ((w.alloc (.cells #[.int .i64 i, .int .i64 c] 43)).alloc (.cells #[.int .i64 0, .slice none 0 0] 40)) = w2 at hX0 hX1 hb ⊢
  generalize hg1 : w.heap.size + 1 = g1 at hX1 ⊢
  generalize hg0 : w.heap.size = g0 at hX0 hb hg1 hgw ⊢
  have HG := Lib.hid hg0
  have hle1 : g0 < g1 := by omega
  clear hg0 hg1
  have hI2 : BIn w2 base gb s v l := h.later (by rw [HG.out]; exact hb)
  have hK2 : BKeep gb v l w w2 v l := bKeep_below (by rw [HG.out]; exact hb)
  have hB2 : Below base w w2 := hb.mono (by omega)
  have hg1l := AtS.lt hX1
  clear h
  obtain ⟨_, _⟩ := hX0.cells2
  have HOV : Hid (∀ W : World, W = w2 → Calls Try.prog 29 #[.pointer (some ⟨gb, 3, none⟩), .int .u32 t] W fun e w' => e = .returned (.bool false) ∧ w' = W) := Lib.hid (fun W e => by
    subst e
    have := bfOver_q hI2 t ht0 t1
    rw [show decide (t < s.least) = false from by rw [decide_eq_false_iff_not]; omega] at this
    exact this)
  have d1 : decide ((255 : Int) < c) = false := by rw [decide_eq_false_iff_not]; omega
  have d2 : decide (i < 0) = false := by rw [decide_eq_false_iff_not]; omega
  have d3 : decide (c ≤ i) = false := by rw [decide_eq_false_iff_not]; omega
  go_wp2_with fail
  refine (HOV.out _ rfl).mono ?_
  rintro e w' ⟨rfl, hq⟩
  subst hq
  go_upto_region 5 with fail
  go_cut [11] (fun z wx => PutMid w' base gb g0 g1 s v l t i c now d z wx)
  case first =>
    have hS0 : (fun W : World => W.cell? ⟨g0, 0, none⟩ = some (.int .i64 i) ∧ W.cell? ⟨g0, 1, none⟩ = some (.int .i64 c)) w'.drew := (AtS.drew hX0).cells2
    have hID : BIn w'.drew base gb s v l := hI2.heap rfl
    refine wp_region_noPanic ?_
    refine ordM_begin (fun W : World => W.cell? ⟨g0, 0, none⟩ = some (.int .i64 i) ∧ W.cell? ⟨g0, 1, none⟩ = some (.int .i64 c)) (fun i => i == 11) (by kernel_rfl) hS0 ?_
    refine ordM_take 0 ?vq1 rfl (by kernel_rfl) (by kernel_rfl) (by kernel_rfl) (by kernel_rfl) (fun _ _ _ h => h) (by rfl) ?hq1 (by assumption) ?rq1
    case hq1 => (intro W hSw; (try dsimp only at hSw); go_simp <;> with_reducible rfl)
    (try simp only [Act.put, List.setIfInBounds_toArray, List.set_cons_zero, List.set_cons_succ])
    refine ordM_take 1 ?vq2 rfl (by kernel_rfl) (by kernel_rfl) (by kernel_rfl) (by kernel_rfl) (fun _ _ _ h => h) (by rfl) ?hq2 (by assumption) ?rq2
    case hq2 => (intro W hSw; (try dsimp only at hSw); go_simp <;> with_reducible rfl)
    (try simp only [Act.put, List.setIfInBounds_toArray, List.set_cons_zero, List.set_cons_succ])
    refine ordM_take 2 ?vq3 rfl (by kernel_rfl) (by kernel_rfl) (by kernel_rfl) (by kernel_rfl) (fun _ _ _ h => h) (by rfl) ?hq3 (by assumption) ?rq3
    case hq3 => (intro W hSw; (try dsimp only at hSw); go_simp <;> with_reducible rfl)
    (try simp only [Act.put, List.setIfInBounds_toArray, List.set_cons_zero, List.set_cons_succ])
    refine ordM_take 3 ?vq4 rfl (by kernel_rfl) (by kernel_rfl) (by kernel_rfl) (by kernel_rfl) (fun _ _ _ h => h) (by rfl) ?hq4 (by assumption) ?rq4
    case hq4 => (intro W hSw; (try dsimp only at hSw); go_simp <;> with_reducible rfl)
    (try simp only [Act.put, List.setIfInBounds_toArray, List.set_cons_zero, List.set_cons_succ])
    refine ordM_take 4 ?vq5 rfl (by kernel_rfl) (by kernel_rfl) (by kernel_rfl) (by kernel_rfl) (fun _ _ _ h => h) (by rfl) ?hq5 (by assumption) ?rq5
    case hq5 => (intro W hSw; (try dsimp only at hSw); go_simp <;> with_reducible rfl)
    (try simp only [Act.put, List.setIfInBounds_toArray, List.set_cons_zero, List.set_cons_succ])
    refine ordM_take 6 ?vq6 rfl (by kernel_rfl) (by kernel_rfl) (by kernel_rfl) (by kernel_rfl) (fun _ _ _ h => h) (by rfl) ?hq6 (by assumption) ?rq6
    case hq6 => (intro W hSw; (try dsimp only at hSw); go_simp <;> with_reducible rfl)
    (try simp only [Act.put, List.setIfInBounds_toArray, List.set_cons_zero, List.set_cons_succ])
    refine ordM_take 7 ?vq7 rfl (by kernel_rfl) (by kernel_rfl) (by kernel_rfl) (by kernel_rfl) (fun _ _ _ h => h) (by rfl) ?hq7 (by assumption) ?rq7
    case hq7 => (intro W hSw; (try dsimp only at hSw); go_simp <;> with_reducible rfl)
    (try simp only [Act.put, List.setIfInBounds_toArray, List.set_cons_zero, List.set_cons_succ])
    refine ordM_ready [5, 10] (by kernel_rfl) (by simp) ?_
    refine AllReadyM.cons rfl (fun K hK => ?_) ?_
    · go_simp
      go_at_call 30
      refine (bfFrame_any hID t c now (by omega) t0 t1).mono ?_
      rintro e w3 ⟨k, x, v3, l1, rfl, hE, hI3, hK3, hB3⟩
      have hP3 : AtS 43 w3 g0 #[.int .i64 i, .int .i64 c] := by
        have hh := (AtS.drew hX0)
        unfold AtS at hh ⊢
        rw [hK3.blk hID hh (by decide) (by decide) (by decide)]
        exact hh
      have hS3 : (fun W : World => W.cell? ⟨g0, 0, none⟩ = some (.int .i64 i) ∧ W.cell? ⟨g0, 1, none⟩ = some (.int .i64 c)) w3 := AtS.cells2 hP3
      (try go_wp2_with fail)
      replace hK3 : BKeep gb v l w' w3 v3 l1 := ⟨hK3.size, hK3.block, hK3.foot⟩
      replace hB3 : Below base w' w3 := (Below.refl _ _).drew.trans hB3
      refine hK.out _ _ (fun _ => hS3) ?_
      clear hK K
      (try simp only [Act.put, List.setIfInBounds_toArray, List.set_cons_zero, List.set_cons_succ])
      refine ordM_ready [8, 10] (by kernel_rfl) (by simp) ?_
      refine AllReadyM.cons rfl (fun K hK => ?_) ?_
      · have hsum := hE.sums
        have hxm := List.mem_of_getElem? hE.at
        obtain ⟨P', r, hSP⟩ := spPut_ex x.P i c d
        have hdB : spB x.P + d.size ≤ 4611686018427387904 := by have := sp_le hxm; omega
        go_simp
        go_at_call 31
        refine (spPutM (hI3.fr.fr x hxm) hSP hdB).mono ?_
        rintro e w4 ⟨rfl, ⟨m, hF4, hm4⟩, hB4, hKF⟩
        obtain ⟨hM4, hK4⟩ := bIn_put hI3 hE.at hF4 hKF hm4
        have hP4 : AtS 43 w4 g0 #[.int .i64 i, .int .i64 c] := by
          have hh := hP3
          unfold AtS at hh ⊢
          rw [hK4.blk hI3 hh (by decide) (by decide) (by decide)]
          exact hh
        have hS4 : (fun W : World => W.cell? ⟨g0, 0, none⟩ = some (.int .i64 i) ∧ W.cell? ⟨g0, 1, none⟩ = some (.int .i64 c)) w4 := AtS.cells2 hP4
        (try go_wp2_with fail)
        refine hK.out _ _ (fun _ => hS4) ?_
        clear hK K
        (try simp only [Act.put, List.setIfInBounds_toArray, List.set_cons_zero, List.set_cons_succ])
        refine ordM_take 9 ?vq8 rfl (by kernel_rfl) (by kernel_rfl) (by kernel_rfl) (by kernel_rfl) (fun _ _ _ h => h) (by rfl) ?hq8 (by assumption) ?rq8
        case hq8 => (intro W hSw; (try dsimp only at hSw); go_simp <;> with_reducible rfl)
        (try simp only [Act.put, List.setIfInBounds_toArray, List.set_cons_zero, List.set_cons_succ])
        refine ordM_ready [10] (by kernel_rfl) (by simp) ?_
        refine AllReadyM.cons rfl (fun K hK => ?_) AllReadyM.nil
        go_simp
        have hS5 : (fun W : World => W.cell? ⟨g0, 0, none⟩ = some (.int .i64 i) ∧ W.cell? ⟨g0, 1, none⟩ = some (.int .i64 c)) (w4.alloc (.cells #[.int .i64 0, .slice none 0 0] 40)) := (AtS.later hP4 ((Below.refl w4.heap.size w4).alloc (Nat.le_refl _) _)).cells2
        refine hK.out _ _ (fun _ => hS5) ?_
        clear hK K
        (try simp only [Act.put, List.setIfInBounds_toArray, List.set_cons_zero, List.set_cons_succ])
        clear hS0 hS3 hS4
        refine ordM_ready [11] (by kernel_rfl) (by simp) ?_
        refine AllReadyM.cons rfl (fun K hK => ?_) AllReadyM.nil
        go_simp
        refine hK.out _ _ (fun h => absurd h (by decide)) ?_
        clear hK K
        (try simp only [Act.put, List.setIfInBounds_toArray, List.set_cons_zero, List.set_cons_succ])
        refine ordM_done (by kernel_rfl) ?_ _
        refine NoPanic.normal ?_
        go_wp2_with fail
        go_meet
        have hal := (Below.refl w4.heap.size w4).alloc (Nat.le_refl _) (.cells #[.int .i64 r, .slice none 0 0] 40)
        have hs3 := hK3.size
        have hs4 := hK4.size
        have hl1 : g1 < w4.heap.size := Nat.lt_of_lt_of_le hg1l (Nat.le_trans hs3 hs4)
        exact ⟨w4.heap.size, k, x, v3, l1, m, P', r, rfl, hE, hSP, atS_new _ _ _ _ rfl, hM4.later hal, (hK3.trans hK4).later hal, (hB3.trans hB4).alloc (by have := AtS.lt hI3.at10; omega) _, by omega, by omega⟩
      · refine AllReadyM.cons rfl (fun K hK => ?_) AllReadyM.nil
        go_simp
        have hal := (Below.refl w3.heap.size w3).alloc (Nat.le_refl _) (.cells #[.int .i64 0, .slice none 0 0] 40)
        have hIa := hI3.later hal
        have hPa := AtS.later hP3 hal
        have hZa := atS_new 40 w3 w3.heap.size #[.int .i64 0, .slice none 0 0] rfl
        have hS5 : (fun W : World => W.cell? ⟨g0, 0, none⟩ = some (.int .i64 i) ∧ W.cell? ⟨g0, 1, none⟩ = some (.int .i64 c)) (w3.alloc (.cells #[.int .i64 0, .slice none 0 0] 40)) := AtS.cells2 hPa
        refine hK.out _ _ (fun _ => hS5) ?_
        clear hK K
        (try simp only [Act.put, List.setIfInBounds_toArray, List.set_cons_zero, List.set_cons_succ])
        refine ordM_ready [8] (by kernel_rfl) (by simp) ?_
        refine AllReadyM.cons rfl (fun K hK => ?_) AllReadyM.nil
        have hsum := hE.sums
        have hxm := List.mem_of_getElem? hE.at
        obtain ⟨P', r, hSP⟩ := spPut_ex x.P i c d
        have hdB : spB x.P + d.size ≤ 4611686018427387904 := by have := sp_le hxm; omega
        go_simp
        go_at_call 31
        refine (spPutM (hIa.fr.fr x hxm) hSP hdB).mono ?_
        rintro e w4 ⟨rfl, ⟨m, hF4, hm4⟩, hB4, hKF⟩
        obtain ⟨hM4, hK4⟩ := bIn_put hIa hE.at hF4 hKF hm4
        have hP4 : AtS 43 w4 g0 #[.int .i64 i, .int .i64 c] := by
          have hh := hPa
          unfold AtS at hh ⊢
          rw [hK4.blk hIa hh (by decide) (by decide) (by decide)]
          exact hh
        have hS4 : (fun W : World => W.cell? ⟨g0, 0, none⟩ = some (.int .i64 i) ∧ W.cell? ⟨g0, 1, none⟩ = some (.int .i64 c)) w4 := AtS.cells2 hP4
        (try go_wp2_with fail)
        refine hK.out _ _ (fun _ => hS4) ?_
        clear hK K
        (try simp only [Act.put, List.setIfInBounds_toArray, List.set_cons_zero, List.set_cons_succ])
        refine ordM_take 9 ?vq9 rfl (by kernel_rfl) (by kernel_rfl) (by kernel_rfl) (by kernel_rfl) (fun _ _ _ h => h) (by rfl) ?hq9 (by assumption) ?rq9
        case hq9 => (intro W hSw; (try dsimp only at hSw); go_simp <;> with_reducible rfl)
        (try simp only [Act.put, List.setIfInBounds_toArray, List.set_cons_zero, List.set_cons_succ])
        have hZ4 : AtS 40 w4 w3.heap.size #[.int .i64 0, .slice none 0 0] := by
          have hh := hZa
          unfold AtS at hh ⊢
          rw [hK4.blk hIa hh (by decide) (by decide) (by decide)]
          exact hh
        obtain ⟨_, _⟩ := hZ4.cells2
        have hfz4 : ∀ i, w4.frozen? ⟨w3.heap.size, i, none⟩ = false := fun i => AtS.free hZ4 i
        clear hS0 hS3 hS4 hS5
        refine ordM_ready [11] (by kernel_rfl) (by simp) ?_
        refine AllReadyM.cons rfl (fun K hK => ?_) AllReadyM.nil
        go_simp
        refine hK.out _ _ (fun h => absurd h (by decide)) ?_
        clear hK K
        (try simp only [Act.put, List.setIfInBounds_toArray, List.set_cons_zero, List.set_cons_succ])
        refine ordM_done (by kernel_rfl) ?_ _
        refine NoPanic.normal ?_
        go_wp2_with fail
        go_meet
        have ho : Only w3.heap.size w4 ((w4.setCell ⟨w3.heap.size, 0, none⟩ (.int .i64 r)).setCell ⟨w3.heap.size, 1, none⟩ (.slice none 0 0)) := ((Only.refl _ w4).setCell 0 _).setCell 1 _
        have hs3 := hK3.size
        have hl1 : g1 < w3.heap.size := Nat.lt_of_lt_of_le hg1l hs3
        have hbl : base ≤ w3.heap.size := by have := AtS.lt hI3.at10; omega
        have hM5 := (hM4.other hZ4 ho (by decide) (by decide) (by decide)).elim (fun h => h.1) id
        exact ⟨w3.heap.size, k, x, v3, l1, m, P', r, rfl, hE, hSP, at2_set hZ4 _ _, hM5, ((hK3.later hal).trans hK4).only ho hs3, ((hB3.trans (hal.mono hbl)).trans hB4).trans (ho.below hbl), by omega, by omega⟩
    · refine AllReadyM.cons rfl (fun K hK => ?_) AllReadyM.nil
      go_simp
      have hal : Below w'.heap.size w' (w'.alloc (.cells #[.int .i64 0, .slice none 0 0] 40)).drew := ((Below.refl w'.heap.size w').alloc (Nat.le_refl _) (.cells #[.int .i64 0, .slice none 0 0] 40)).drew
      have hIa := hI2.later hal
      have hPa := AtS.later hX0 hal
      have hZa : AtS 40 (w'.alloc (.cells #[.int .i64 0, .slice none 0 0] 40)).drew w'.heap.size #[.int .i64 0, .slice none 0 0] := AtS.drew (atS_new 40 w' w'.heap.size #[.int .i64 0, .slice none 0 0] rfl)
      have hS5 : (fun W : World => W.cell? ⟨g0, 0, none⟩ = some (.int .i64 i) ∧ W.cell? ⟨g0, 1, none⟩ = some (.int .i64 c)) (w'.alloc (.cells #[.int .i64 0, .slice none 0 0] 40)).drew := AtS.cells2 hPa
      refine hK.out _ _ (fun _ => hS5) ?_
      clear hK K
      (try simp only [Act.put, List.setIfInBounds_toArray, List.set_cons_zero, List.set_cons_succ])
      refine ordM_ready [5] (by kernel_rfl) (by simp) ?_
      refine AllReadyM.cons rfl (fun K hK => ?_) AllReadyM.nil
      go_simp
      go_at_call 30
      refine (bfFrame_any hIa t c now (by omega) t0 t1).mono ?_
      rintro e w3 ⟨k, x, v3, l1, rfl, hE, hI3, hK3, hB3⟩
      have hP3 : AtS 43 w3 g0 #[.int .i64 i, .int .i64 c] := by
        have hh := hPa
        unfold AtS at hh ⊢
        rw [hK3.blk hIa hh (by decide) (by decide) (by decide)]
        exact hh
      have hS3 : (fun W : World => W.cell? ⟨g0, 0, none⟩ = some (.int .i64 i) ∧ W.cell? ⟨g0, 1, none⟩ = some (.int .i64 c)) w3 := AtS.cells2 hP3
      (try go_wp2_with fail)
      refine hK.out _ _ (fun _ => hS3) ?_
      clear hK K
      (try simp only [Act.put, List.setIfInBounds_toArray, List.set_cons_zero, List.set_cons_succ])
      refine ordM_ready [8] (by kernel_rfl) (by simp) ?_
      refine AllReadyM.cons rfl (fun K hK => ?_) AllReadyM.nil
      have hsum := hE.sums
      have hxm := List.mem_of_getElem? hE.at
      obtain ⟨P', r, hSP⟩ := spPut_ex x.P i c d
      have hdB : spB x.P + d.size ≤ 4611686018427387904 := by have := sp_le hxm; omega
      go_simp
      go_at_call 31
      refine (spPutM (hI3.fr.fr x hxm) hSP hdB).mono ?_
      rintro e w4 ⟨rfl, ⟨m, hF4, hm4⟩, hB4, hKF⟩
      obtain ⟨hM4, hK4⟩ := bIn_put hI3 hE.at hF4 hKF hm4
      have hP4 : AtS 43 w4 g0 #[.int .i64 i, .int .i64 c] := by
        have hh := hP3
        unfold AtS at hh ⊢
        rw [hK4.blk hI3 hh (by decide) (by decide) (by decide)]
        exact hh
      have hS4 : (fun W : World => W.cell? ⟨g0, 0, none⟩ = some (.int .i64 i) ∧ W.cell? ⟨g0, 1, none⟩ = some (.int .i64 c)) w4 := AtS.cells2 hP4
      (try go_wp2_with fail)
      refine hK.out _ _ (fun _ => hS4) ?_
      clear hK K
      (try simp only [Act.put, List.setIfInBounds_toArray, List.set_cons_zero, List.set_cons_succ])
      refine ordM_take 9 ?vq10 rfl (by kernel_rfl) (by kernel_rfl) (by kernel_rfl) (by kernel_rfl) (fun _ _ _ h => h) (by rfl) ?hq10 (by assumption) ?rq10
      case hq10 => (intro W hSw; (try dsimp only at hSw); go_simp <;> with_reducible rfl)
      (try simp only [Act.put, List.setIfInBounds_toArray, List.set_cons_zero, List.set_cons_succ])
      have hZ3 : AtS 40 w3 w'.heap.size #[.int .i64 0, .slice none 0 0] := by
        have hh := hZa
        unfold AtS at hh ⊢
        rw [hK3.blk hIa hh (by decide) (by decide) (by decide)]
        exact hh
      have hZ4 : AtS 40 w4 w'.heap.size #[.int .i64 0, .slice none 0 0] := by
        have hh := hZ3
        unfold AtS at hh ⊢
        rw [hK4.blk hI3 hh (by decide) (by decide) (by decide)]
        exact hh
      obtain ⟨_, _⟩ := hZ4.cells2
      have hfz4 : ∀ i, w4.frozen? ⟨w'.heap.size, i, none⟩ = false := fun i => AtS.free hZ4 i
      clear hS0 hS3 hS4 hS5
      refine ordM_ready [11] (by kernel_rfl) (by simp) ?_
      refine AllReadyM.cons rfl (fun K hK => ?_) AllReadyM.nil
      go_simp
      refine hK.out _ _ (fun h => absurd h (by decide)) ?_
      clear hK K
      (try simp only [Act.put, List.setIfInBounds_toArray, List.set_cons_zero, List.set_cons_succ])
      refine ordM_done (by kernel_rfl) ?_ _
      refine NoPanic.normal ?_
      go_wp2_with fail
      go_meet
      have ho : Only w'.heap.size w4 ((w4.setCell ⟨w'.heap.size, 0, none⟩ (.int .i64 r)).setCell ⟨w'.heap.size, 1, none⟩ (.slice none 0 0)) := ((Only.refl _ w4).setCell 0 _).setCell 1 _
      have hbl : base ≤ w'.heap.size := by have := AtS.lt hI2.at10; omega
      have hM5 := (hM4.other hZ4 ho (by decide) (by decide) (by decide)).elim (fun h => h.1) id
      exact ⟨w'.heap.size, k, x, v3, l1, m, P', r, rfl, hE, hSP, at2_set hZ4 _ _, hM5, (((bKeep_below hal : BKeep gb v l w' _ v l).trans hK3).trans hK4).only ho (Nat.le_refl _), ((hal.mono hbl).trans hB3).trans hB4 |>.trans (ho.below hbl), by omega, by omega⟩
  case rest =>
  obtain ⟨g2, k, x, v', l1, m, P', r, rfl, hE, hP, hX2, hM, hK3, hB3, hg2, hg21⟩ := hcut
  rename World => w3
  have hsum := hE.sums
  have hps := bfParts_set hE.at m P'
  have hbs2 := bfBytes_set hE.at m P'
  have htwo := hP.two
  obtain ⟨l2, hl2⟩ : ∃ l2, l2 = l1.set k (x.with m P') := ⟨_, rfl⟩
  have hlen2 : l2.length = l1.length := by rw [hl2, List.length_set]
  rw [← hl2] at hM hK3 hps hbs2
  have HUP := Lib.hid hM.up.up
  have hX13 : AtS 40 w3 g1 #[.int .i64 0, .slice none 0 0] := by
    have hh := hX1
    unfold AtS at hh ⊢
    rw [hK3.blk hI2 hh (by decide) (by decide) (by decide)]
    exact hh
  have hgb2 : g2 ≠ gb := fun e => blk_ne hX2 hM.at10 (by decide) e
  have hgb1 : g1 ≠ gb := fun e => blk_ne hX13 hM.at10 (by decide) e
  have HL2 := Lib.hid hl2
  have HE := Lib.hid hE
  have HP := Lib.hid hP
  have HPS := Lib.hid hps
  have HBS2 := Lib.hid hbs2
  have HSUM := Lib.hid hsum
  clear hl2 hE hP hX1 hps hbs2 hsum
  obtain ⟨_, _⟩ := hX2.cells2
  go_upto_region 6 with fail
  go_cut [51] (fun z wx => z = .bool (decide (r < 3)) ∧ wx = w3)
  case first =>
    rcases htwo with ⟨⟨h12, hd⟩, _⟩ | ⟨⟨h34, hd⟩, _⟩
    · rcases h12 with rfl | rfl
      · go_wp2_with fail
        go_meet
        exact ⟨rfl, rfl⟩
      · go_wp2_with fail
        go_meet
        exact ⟨rfl, rfl⟩
    · rcases h34 with rfl | rfl
      · go_wp2_with fail
        go_meet
        exact ⟨rfl, rfl⟩
      · go_wp2_with fail
        go_meet
        exact ⟨rfl, rfl⟩
  case rest =>
  obtain ⟨rfl, rfl⟩ := hcut
  rename World => w3
  rcases htwo with ⟨⟨h12, hd⟩, hh1, hh2⟩ | ⟨⟨h34, hd⟩, hh1, hh2⟩
  · rw [hd]
    have HH1 := Lib.hid hh1
    have HH2 := Lib.hid hh2
    clear hh1 hh2 h12 hd
    have hw1 : IntKind.i64.wrap ((bfParts l1 : Int) + 1) = (bfParts l1 : Int) + 1 := by have := HSUM.out; rw [IntKind.wrap_i64]; omega
    have hw2 : IntKind.i64.wrap ((bfBytes l1 : Int) + (d.size : Int)) = (bfBytes l1 : Int) + (d.size : Int) := by have := HSUM.out; rw [IntKind.wrap_i64]; omega
    have h10 := hM.at10
    obtain ⟨_, _, _, _, _, _, _, _, _, _⟩ := AtS.cells10 h10
    have hf0 : ∀ i, w3.frozen? ⟨gb, i, none⟩ = false := fun i => AtS.free h10 i
    go_upto_region 9 with fail
    have h11 := at10_set4 (at10_set3 h10 (.int .i64 ((bfParts l1 : Int) + 1))) (.int .i64 ((bfBytes l1 : Int) + (d.size : Int)))
    have ho5 := ((Only.refl gb w3).setCell 3 (.int .i64 ((bfParts l1 : Int) + 1))).setCell 4 (.int .i64 ((bfBytes l1 : Int) + (d.size : Int)))
    have hI5 : BIn ((w3.setCell ⟨gb, 3, none⟩ (.int .i64 ((bfParts l1 : Int) + 1))).setCell ⟨gb, 4, none⟩ (.int .i64 ((bfBytes l1 : Int) + (d.size : Int)))) base gb s v' l2 := (hM.setc ho5 h11).full (by have := HPS.out; have := HH1.out; omega) (by have := HBS2.out; have := HH2.out; omega)
    generalize (w3.setCell ⟨gb, 3, none⟩ (.int .i64 ((bfParts l1 : Int) + 1))).setCell ⟨gb, 4, none⟩ (.int .i64 ((bfBytes l1 : Int) + (d.size : Int))) = w5 at hI5 ho5 ⊢
    have hpb : bfParts l2 ≤ 1099511627776 ∧ bfBytes l2 ≤ 1099511627776 := by have := HPS.out; have := HH1.out; have := HBS2.out; have := HH2.out; have := HSUM.out; omega
    clear h10 h11 hf0 hw1 hw2
    have hX15 := AtS.only hX13 hgb1 ho5
    have hX25 := AtS.only hX2 hgb2 ho5
    have hK5 : BKeep gb v l w' w5 v' l2 := hK3.trans (bKeep_only ho5 (fun _ h => h))
    have hB5 : Below base w' w5 := hB3.trans (ho5.below hbs)
    clear hX13 hX2 hK3 hB3 ho5 hM
    have HEV := Lib.hid (bfEvict_any hI5 hpb.1 hpb.2 (by have := HSUM.out; omega) e0 (by omega))
    go_wp2_with fail
    refine HEV.out.mono ?_
    rintro e w6 ⟨j, tv, v6, hj, hov, hnov, rfl, hT6, hI6, hK6, hB6⟩
    obtain ⟨ta, tc, rfl⟩ := hT6.formG
    have hX16 : AtS 40 w6 g1 #[.int .i64 0, .slice none 0 0] := by
      have hh := hX15
      unfold AtS at hh ⊢
      rw [hK6.blk hI5 hh (by decide) (by decide) (by decide)]
      exact hh
    have hX26 : AtS 40 w6 g2 #[.int .i64 r, .slice none 0 0] := by
      have hh := hX25
      unfold AtS at hh ⊢
      rw [hK6.blk hI5 hh (by decide) (by decide) (by decide)]
      exact hh
    clear HEV
    obtain ⟨_, _⟩ := hX26.cells2
    have hf6 : ∀ i, w6.frozen? ⟨g2, i, none⟩ = false := fun i => AtS.free hX26 i
    have hKA : BKeep gb v l w w6 v6 (l2.drop j) := (hK2.trans hK5).trans hK6
    have hBA : Below base w w6 := (hB2.trans hB5).trans hB6
    have hT6' : OwnE w6 g0 30 1 (.slice ta j tc) j (bfTs (l2.take j)) := hT6.base (by rw [← HG.out]; exact (hK2.trans hK5).size)
    clear hK5 hB5 hX15 hX25 hI5 hK6 hB6 hT6
    go_upto_region 10 with fail
    have ho7 := (Only.refl g2 w6).setCell 1 (.slice ta j tc)
    have hI7 := hI6.other hX26 ho7 (by decide) (by decide) (by decide)
    have hT7 := hT6'.other hX26 ho7 (by decide)
    have hK7 := hKA.only ho7 (by rw [HG.out]; exact hg2)
    have hB7 := hBA.trans (ho7.below (by omega))
    have hX17 := AtS.only hX16 hg21.symm ho7
    have hX27 := at2_set1 hX26 (.slice ta j tc)
    generalize w6.setCell ⟨g2, 1, none⟩ (.slice ta j tc) = w7 at hI7 hT7 hK7 hB7 hX17 hX27 ⊢
    clear ho7 hI6 hT6' hKA hBA hX16 hX26 hf6
    have HO7 := Lib.hid (bfOver_q hI7 t ht0 t1)
    obtain ⟨ov, hovr⟩ : ∃ z, decide (t < bfLst s.least (l2.take j)) = z := ⟨_, rfl⟩
    have HO8 : Hid (Calls Try.prog 29 #[.pointer (some ⟨gb, 3, none⟩), .int .u32 t] w7 fun e w' => e = .returned (.bool ov) ∧ w' = w7) := Lib.hid (by rw [← hovr]; exact HO7.out)
    have HOV8 := Lib.hid hovr
    clear HO7 hovr
    go_wp2_with fail
    refine HO8.out.mono ?_
    rintro e wq ⟨rfl, hq⟩
    subst hq
    cases ov with
    | false =>
      obtain ⟨_, _⟩ := hX27.cells2
      obtain ⟨_, _⟩ := hX17.cells2
      have hf1 : ∀ i, wq.frozen? ⟨g1, i, none⟩ = false := fun i => AtS.free hX17 i
      go_wp2_with fail
      have hoz : Only g1 wq ((wq.setCell ⟨g1, 0, none⟩ (.int .i64 r)).setCell ⟨g1, 1, none⟩ (.slice ta j tc)) := ((Only.refl g1 wq).setCell 0 _).setCell 1 _
      have hZ := at2_set hX17 (.int .i64 r) (.slice ta j tc)
      obtain ⟨z0, z1⟩ := hZ.cells2
      refine bodyPost_ret (v := .agg #[.int .i64 r, .slice ta j tc]) (by simp [results, Try.results10, go_sem, z0, z1]) rfl ⟨r, l2.take j, _, v6, l2.drop j, .slice ta j tc, rfl, .put t0 ⟨hc, hi, hic⟩ k x l1 l2 m P' r j HE.out HP.out HL2.out hj hov hnov HUP.out _ (by rw [if_neg (of_decide_eq_false HOV8.out)]), ?_, hI7.other hX17 hoz (by decide) (by decide) (by decide), hK7.only hoz (by rw [HG.out]; omega), hB7.trans (hoz.below (by omega))⟩
      rw [HG.out, List.length_take, Nat.min_eq_left hj]
      exact hT7.other hX17 hoz (by decide)
    | true =>
      obtain ⟨_, _⟩ := hX27.cells2
      have hf2 : ∀ i, wq.frozen? ⟨g2, i, none⟩ = false := fun i => AtS.free hX27 i
      go_upto_region 12 with fail
      have ho8 := (Only.refl g2 wq).setCell 0 (.int .i64 6)
      have hI8 := hI7.other hX27 ho8 (by decide) (by decide) (by decide)
      have hT8 := hT7.other hX27 ho8 (by decide)
      have hK8 := hK7.only ho8 (by rw [HG.out]; exact hg2)
      have hB8 := hB7.trans (ho8.below (by omega))
      have hX18 := AtS.only hX17 hg21.symm ho8
      have hX28 := at2_set0 hX27 (.int .i64 6)
      generalize wq.setCell ⟨g2, 0, none⟩ (.int .i64 6) = w8 at hI8 hT8 hK8 hB8 hX18 hX28 ⊢
      clear ho8 hI7 hT7 hK7 hB7 hX17 hX27 hf2
      obtain ⟨_, _⟩ := hX28.cells2
      obtain ⟨_, _⟩ := hX18.cells2
      have hf1 : ∀ i, w8.frozen? ⟨g1, i, none⟩ = false := fun i => AtS.free hX18 i
      go_wp2_with fail
      have hoz : Only g1 w8 ((w8.setCell ⟨g1, 0, none⟩ (.int .i64 6)).setCell ⟨g1, 1, none⟩ (.slice ta j tc)) := ((Only.refl g1 w8).setCell 0 _).setCell 1 _
      have hZ := at2_set hX18 (.int .i64 6) (.slice ta j tc)
      obtain ⟨z0, z1⟩ := hZ.cells2
      refine bodyPost_ret (v := .agg #[.int .i64 6, .slice ta j tc]) (by simp [results, Try.results10, go_sem, z0, z1]) rfl ⟨6, l2.take j, _, v6, l2.drop j, .slice ta j tc, rfl, .put t0 ⟨hc, hi, hic⟩ k x l1 l2 m P' r j HE.out HP.out HL2.out hj hov hnov HUP.out _ (by rw [if_pos (of_decide_eq_true HOV8.out)]), ?_, hI8.other hX18 hoz (by decide) (by decide) (by decide), hK8.only hoz (by rw [HG.out]; omega), hB8.trans (hoz.below (by omega))⟩
      rw [HG.out, List.length_take, Nat.min_eq_left hj]
      exact hT8.other hX18 hoz (by decide)
  · rw [hd]
    have HH1 := Lib.hid hh1
    have HH2 := Lib.hid hh2
    clear hh1 hh2 h34 hd
    go_upto_region 9 with fail
    have ho5 := Only.refl gb w3
    have hI5 : BIn w3 base gb s v' l2 := hM.full (by have := HPS.out; have := HH1.out; omega) (by have := HBS2.out; have := HH2.out; omega)
    have hpb : bfParts l2 ≤ 1099511627776 ∧ bfBytes l2 ≤ 1099511627776 := by have := HPS.out; have := HH1.out; have := HBS2.out; have := HH2.out; have := HSUM.out; omega
    have hX15 := AtS.only hX13 hgb1 ho5
    have hX25 := AtS.only hX2 hgb2 ho5
    have hK5 : BKeep gb v l w' w3 v' l2 := hK3.trans (bKeep_only ho5 (fun _ h => h))
    have hB5 : Below base w' w3 := hB3.trans (ho5.below hbs)
    clear hX13 hX2 hK3 hB3 ho5 hM
    have HEV := Lib.hid (bfEvict_any hI5 hpb.1 hpb.2 (by have := HSUM.out; omega) e0 (by omega))
    go_wp2_with fail
    refine HEV.out.mono ?_
    rintro e w6 ⟨j, tv, v6, hj, hov, hnov, rfl, hT6, hI6, hK6, hB6⟩
    obtain ⟨ta, tc, rfl⟩ := hT6.formG
    have hX16 : AtS 40 w6 g1 #[.int .i64 0, .slice none 0 0] := by
      have hh := hX15
      unfold AtS at hh ⊢
      rw [hK6.blk hI5 hh (by decide) (by decide) (by decide)]
      exact hh
    have hX26 : AtS 40 w6 g2 #[.int .i64 r, .slice none 0 0] := by
      have hh := hX25
      unfold AtS at hh ⊢
      rw [hK6.blk hI5 hh (by decide) (by decide) (by decide)]
      exact hh
    clear HEV
    obtain ⟨_, _⟩ := hX26.cells2
    have hf6 : ∀ i, w6.frozen? ⟨g2, i, none⟩ = false := fun i => AtS.free hX26 i
    have hKA : BKeep gb v l w w6 v6 (l2.drop j) := (hK2.trans hK5).trans hK6
    have hBA : Below base w w6 := (hB2.trans hB5).trans hB6
    have hT6' : OwnE w6 g0 30 1 (.slice ta j tc) j (bfTs (l2.take j)) := hT6.base (by rw [← HG.out]; exact (hK2.trans hK5).size)
    clear hK5 hB5 hX15 hX25 hI5 hK6 hB6 hT6
    go_upto_region 10 with fail
    have ho7 := (Only.refl g2 w6).setCell 1 (.slice ta j tc)
    have hI7 := hI6.other hX26 ho7 (by decide) (by decide) (by decide)
    have hT7 := hT6'.other hX26 ho7 (by decide)
    have hK7 := hKA.only ho7 (by rw [HG.out]; exact hg2)
    have hB7 := hBA.trans (ho7.below (by omega))
    have hX17 := AtS.only hX16 hg21.symm ho7
    have hX27 := at2_set1 hX26 (.slice ta j tc)
    generalize w6.setCell ⟨g2, 1, none⟩ (.slice ta j tc) = w7 at hI7 hT7 hK7 hB7 hX17 hX27 ⊢
    clear ho7 hI6 hT6' hKA hBA hX16 hX26 hf6
    have HO7 := Lib.hid (bfOver_q hI7 t ht0 t1)
    obtain ⟨ov, hovr⟩ : ∃ z, decide (t < bfLst s.least (l2.take j)) = z := ⟨_, rfl⟩
    have HO8 : Hid (Calls Try.prog 29 #[.pointer (some ⟨gb, 3, none⟩), .int .u32 t] w7 fun e w' => e = .returned (.bool ov) ∧ w' = w7) := Lib.hid (by rw [← hovr]; exact HO7.out)
    have HOV8 := Lib.hid hovr
    clear HO7 hovr
    go_wp2_with fail
    refine HO8.out.mono ?_
    rintro e wq ⟨rfl, hq⟩
    subst hq
    cases ov with
    | false =>
      obtain ⟨_, _⟩ := hX27.cells2
      obtain ⟨_, _⟩ := hX17.cells2
      have hf1 : ∀ i, wq.frozen? ⟨g1, i, none⟩ = false := fun i => AtS.free hX17 i
      go_wp2_with fail
      have hoz : Only g1 wq ((wq.setCell ⟨g1, 0, none⟩ (.int .i64 r)).setCell ⟨g1, 1, none⟩ (.slice ta j tc)) := ((Only.refl g1 wq).setCell 0 _).setCell 1 _
      have hZ := at2_set hX17 (.int .i64 r) (.slice ta j tc)
      obtain ⟨z0, z1⟩ := hZ.cells2
      refine bodyPost_ret (v := .agg #[.int .i64 r, .slice ta j tc]) (by simp [results, Try.results10, go_sem, z0, z1]) rfl ⟨r, l2.take j, _, v6, l2.drop j, .slice ta j tc, rfl, .put t0 ⟨hc, hi, hic⟩ k x l1 l2 m P' r j HE.out HP.out HL2.out hj hov hnov HUP.out _ (by rw [if_neg (of_decide_eq_false HOV8.out)]), ?_, hI7.other hX17 hoz (by decide) (by decide) (by decide), hK7.only hoz (by rw [HG.out]; omega), hB7.trans (hoz.below (by omega))⟩
      rw [HG.out, List.length_take, Nat.min_eq_left hj]
      exact hT7.other hX17 hoz (by decide)
    | true =>
      obtain ⟨_, _⟩ := hX27.cells2
      have hf2 : ∀ i, wq.frozen? ⟨g2, i, none⟩ = false := fun i => AtS.free hX27 i
      go_upto_region 12 with fail
      have ho8 := (Only.refl g2 wq).setCell 0 (.int .i64 6)
      have hI8 := hI7.other hX27 ho8 (by decide) (by decide) (by decide)
      have hT8 := hT7.other hX27 ho8 (by decide)
      have hK8 := hK7.only ho8 (by rw [HG.out]; exact hg2)
      have hB8 := hB7.trans (ho8.below (by omega))
      have hX18 := AtS.only hX17 hg21.symm ho8
      have hX28 := at2_set0 hX27 (.int .i64 6)
      generalize wq.setCell ⟨g2, 0, none⟩ (.int .i64 6) = w8 at hI8 hT8 hK8 hB8 hX18 hX28 ⊢
      clear ho8 hI7 hT7 hK7 hB7 hX17 hX27 hf2
      obtain ⟨_, _⟩ := hX28.cells2
      obtain ⟨_, _⟩ := hX18.cells2
      have hf1 : ∀ i, w8.frozen? ⟨g1, i, none⟩ = false := fun i => AtS.free hX18 i
      go_wp2_with fail
      have hoz : Only g1 w8 ((w8.setCell ⟨g1, 0, none⟩ (.int .i64 6)).setCell ⟨g1, 1, none⟩ (.slice ta j tc)) := ((Only.refl g1 w8).setCell 0 _).setCell 1 _
      have hZ := at2_set hX18 (.int .i64 6) (.slice ta j tc)
      obtain ⟨z0, z1⟩ := hZ.cells2
      refine bodyPost_ret (v := .agg #[.int .i64 6, .slice ta j tc]) (by simp [results, Try.results10, go_sem, z0, z1]) rfl ⟨6, l2.take j, _, v6, l2.drop j, .slice ta j tc, rfl, .put t0 ⟨hc, hi, hic⟩ k x l1 l2 m P' r j HE.out HP.out HL2.out hj hov hnov HUP.out _ (by rw [if_pos (of_decide_eq_true HOV8.out)]), ?_, hI8.other hX18 hoz (by decide) (by decide) (by decide), hK8.only hoz (by rw [HG.out]; omega), hB8.trans (hoz.below (by omega))⟩
      rw [HG.out, List.length_take, Nat.min_eq_left hj]
      exact hT8.other hX18 hoz (by decide)
end Go.Proofs.Ytgomijhckmcfeaa
