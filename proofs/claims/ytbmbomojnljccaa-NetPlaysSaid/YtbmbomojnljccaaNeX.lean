/- net: the document's Twin. -/
import Derived.Test.YtbmbomojnljccaaNeV
import Derived.Test.YtbmbomojnljccaaOrdM
namespace Go.Proofs.Ytbmbomojnljccaa
open Go.RowKit Go.Maps
set_option linter.unusedVariables false
set_option linter.unusedSimpArgs false
/-- How Twin ends. -/
inductive NeTwinR (l : List OD) (m b a p i : Int) : Bool → List OD → Prop
  | none (h : OdNone l a p i) : NeTwinR l m b a p i false l
  | some (k : Nat) (o : OD) (h : OdAt l a p i k o) : NeTwinR l m b a p i (neMay m b (odG l a p) a p o.s) (odPut (neMay m b (odG l a p) a p o.s) l a p o.s)
set_option maxRecDepth 100000 in
set_option maxHeartbeats 6400000 in
theorem refNeTwin_any {w : World} {vl : Value} {l : List OD} {n : Nat} (m b c0 c1 c2 c3 c4 c5 a p i : Int) (hL : OwnE w 0 84 3 vl n (odV l)) (hn : n ≤ 65535) (hx : ∀ o ∈ l, o.s.size ≤ 1500) (hq : 0 ≤ c3 ∧ c3 ≤ 1099511627776) :
    Calls Try.prog 25 #[neRv m b vl c0 c1 c2 c3 c4 c5, .int .i64 a, .int .i64 p, .int .i64 i] w fun e w' => ∃ (r : Bool) (l' : List OD) (v' : Value), e = .returned (.tuple #[neRv m b v' c0 c1 c2 (if r = true then c3 + 1 else c3) c4 c5, .bool r]) ∧ NeTwinR l m b a p i r l' ∧ OwnE w' 0 84 3 v' l'.length (odV l') ∧ Below w.heap.size w w' := by
  unfold neRv
  obtain ⟨ax, cap, rfl, hnc, hcm, hln, _⟩ := hL.rdo
  unfold maxLen at hcm
  have hX1 := atQ_new 34 (w.alloc (.cells #[.int .i64 m, .int .i64 b, .slice ax n cap, .int .i64 c0, .int .i64 c1, .int .i64 c2, .int .i64 c3, .int .i64 c4, .int .i64 c5] 34)) (w.heap.size + 1) #[.int .i64 0, .int .i64 0, .slice none 0 0, .int .i64 0, .int .i64 0, .int .i64 0, .int .i64 0, .int .i64 0, .int .i64 0] (by simp)
  have hX0 := (atQ_new 34 w w.heap.size #[.int .i64 m, .int .i64 b, .slice ax n cap, .int .i64 c0, .int .i64 c1, .int .i64 c2, .int .i64 c3, .int .i64 c4, .int .i64 c5] rfl).later (W' := ((w.alloc (.cells #[.int .i64 m, .int .i64 b, .slice ax n cap, .int .i64 c0, .int .i64 c1, .int .i64 c2, .int .i64 c3, .int .i64 c4, .int .i64 c5] 34)).alloc (.cells #[.int .i64 0, .int .i64 0, .slice none 0 0, .int .i64 0, .int .i64 0, .int .i64 0, .int .i64 0, .int .i64 0, .int .i64 0] 34))) ((Below.refl _ _).alloc (Nat.le_refl _) _)
  have hb : Below w.heap.size w ((w.alloc (.cells #[.int .i64 m, .int .i64 b, .slice ax n cap, .int .i64 c0, .int .i64 c1, .int .i64 c2, .int .i64 c3, .int .i64 c4, .int .i64 c5] 34)).alloc (.cells #[.int .i64 0, .int .i64 0, .slice none 0 0, .int .i64 0, .int .i64 0, .int .i64 0, .int .i64 0, .int .i64 0, .int .i64 0] 34)) := ((Below.refl _ _).alloc (Nat.le_refl _) _).alloc (by simp) _
  go_enter Try.func25, Try.ntmps25
  go_upto_region 1 with fail
  generalize ((w.alloc (.cells #[.int .i64 m, .int .i64 b, .slice ax n cap, .int .i64 c0, .int .i64 c1, .int .i64 c2, .int .i64 c3, .int .i64 c4, .int .i64 c5] 34)).alloc (.cells #[.int .i64 0, .int .i64 0, .slice none 0 0, .int .i64 0, .int .i64 0, .int .i64 0, .int .i64 0, .int .i64 0, .int .i64 0] 34)) = w2 at hX0 hX1 hb ⊢
  have hL2 := hL.later hb
  generalize hg1 : w.heap.size + 1 = g1 at *
  generalize hg0 : w.heap.size = g0 at *
  have HG := Lib.hid hg0
  have hle1 : g0 ≤ g1 := by omega
  have hne01 : g0 ≠ g1 := by omega
  have hne10 : g1 ≠ g0 := by omega
  have hsz2 : g0 ≤ w2.heap.size := Nat.le_of_lt hX0.lt
  clear hg0 hg1 hL
  obtain ⟨z0, z1, z2, z3, z4, z5, z6, z7, z8⟩ := hX0.cells9
  have HA := Lib.hid (refNePlace_any m b c0 c1 c2 c3 c4 c5 a p i hL2 hn)
  unfold neRv at HA
  go_wp2_with fail
  refine HA.out.mono ?_
  rintro e w3 ⟨at_, rfl, hpl, hb3⟩
  have hX0' := hX0.later hb3
  have hX1' := hX1.later hb3
  have hL3 := hL2.later hb3
  have hb3' := hb.trans (hb3.mono hsz2)
  have hsz3 : g0 ≤ w3.heap.size := Nat.le_trans hsz2 hb3.size
  clear hX0 hX1 hL2 HA hb hb3 z0 z1 z2 z3 z4 z5 z6 z7 z8
  rcases hpl with ⟨rfl, hno⟩ | ⟨k, o, rfl, hat⟩
  · obtain ⟨_, _, _, _, _, _, _, _, _⟩ := hX0'.cells9
    obtain ⟨_, _, _, _, _, _, _, _, _⟩ := hX1'.frees9
    obtain ⟨_, _, _, _, _, _, _, _, _⟩ := hX1'.cells9
    have hZ := atQ9_put hX1' (.int .i64 m) (.int .i64 b) (.slice ax n cap) (.int .i64 c0) (.int .i64 c1) (.int .i64 c2) (.int .i64 c3) (.int .i64 c4) (.int .i64 c5)
    have hbz := hb3'.trans ((put9_only w3 g1 (.int .i64 m) (.int .i64 b) (.slice ax n cap) (.int .i64 c0) (.int .i64 c1) (.int .i64 c2) (.int .i64 c3) (.int .i64 c4) (.int .i64 c5)).below hle1)
    have hLz := hL3.keep (W' := (((((((((w3.setCell ⟨g1, 0, none⟩ (.int .i64 m)).setCell ⟨g1, 1, none⟩ (.int .i64 b)).setCell ⟨g1, 2, none⟩ (.slice ax n cap)).setCell ⟨g1, 3, none⟩ (.int .i64 c0)).setCell ⟨g1, 4, none⟩ (.int .i64 c1)).setCell ⟨g1, 5, none⟩ (.int .i64 c2)).setCell ⟨g1, 6, none⟩ (.int .i64 c3)).setCell ⟨g1, 7, none⟩ (.int .i64 c4)).setCell ⟨g1, 8, none⟩ (.int .i64 c5))) (by rw [(put9_only w3 g1 (.int .i64 m) (.int .i64 b) (.slice ax n cap) (.int .i64 c0) (.int .i64 c1) (.int .i64 c2) (.int .i64 c3) (.int .i64 c4) (.int .i64 c5)).size]; exact Nat.le_refl _) (fun k cs hk hc => (put9_only w3 g1 (.int .i64 m) (.int .i64 b) (.slice ax n cap) (.int .i64 c0) (.int .i64 c1) (.int .i64 c2) (.int .i64 c3) (.int .i64 c4) (.int .i64 c5)).block k (fun e' => by
      subst e'
      exact blkQ_ne (T := 84) (T' := 34) hc hX1' (by decide) rfl))
    obtain ⟨d0, d1, d2, d3, d4, d5, d6, d7, d8⟩ := hZ.cells9
    have HBZ := Lib.hid hbz
    have HLZ := Lib.hid hLz
    clear hX0' hX1' hL3 hb3' hZ hbz hLz
    go_upto_region 3 with fail
    repeat (first | go_skip | go_guarded | go_step | go_upon | go_back)
    subst hln
    refine bodyPost_ret (v := .tuple #[.agg #[.int .i64 m, .int .i64 b, .slice ax l.length cap, .int .i64 c0, .int .i64 c1, .int .i64 c2, .int .i64 c3, .int .i64 c4, .int .i64 c5], .bool false]) (by simp [results, Try.results25, go_sem, d0, d1, d2, d3, d4, d5, d6, d7, d8]) rfl ⟨false, l, .slice ax l.length cap, rfl, .none hno, HLZ.out, by rw [HG.out]; exact HBZ.out⟩
  · have hkl := hat.lt
    have hd0 : decide ((k : Int) < 0) = false := decide_eq_false (by omega)
    have hxo := hx o hat.mem
    obtain ⟨ax', cap', ev, _, _, _, hrd⟩ := hL3.rdo
    cases ev
    have hltg : ∃ g off, ax = some ⟨g, off, none⟩ ∧ g < w3.heap.size := by
      obtain ⟨g, off, _, e, _, _, _, h, _⟩ := hL3.row (by omega)
      cases e
      exact ⟨_, _, rfl, h⟩
    obtain ⟨g, off, rfl, hltg⟩ := hltg
    obtain ⟨g', off', eg, _, _, e2⟩ := hrd k o hat.hk
    cases eg
    obtain ⟨z0, z1, z2, z3, z4, z5, z6, z7, z8⟩ := hX0'.cells9
    have hcm2 : cap ≤ 9223372036854775807 := hcm
    have hkn : (k : Int) < n := by omega
    go_upto_region 4 with fail
    clear z0 z1 z2 z3 z4 z5 z6 z7 z8 hrd
    have hX0d := hX0'.drew
    have hX1d := hX1'.drew
    have hLd := hL3.later (Below.refl _ _).drew
    have hb3d := hb3'.drew
    have hszd : g0 ≤ w3.drew.heap.size := hsz3
    have hlt0 : g0 < w3.drew.heap.size := hX0d.lt
    have hltg : g < w3.drew.heap.size := hltg
    have hSd : (w3.drew.cell? ⟨g0, 0, none⟩ = some (.int .i64 m) ∧ w3.drew.cell? ⟨g0, 1, none⟩ = some (.int .i64 b) ∧ w3.drew.cell? ⟨g0, 2, none⟩ = some (.slice (some ⟨g, off, none⟩) n cap) ∧ w3.drew.cell? ⟨g0, 3, none⟩ = some (.int .i64 c0) ∧ w3.drew.cell? ⟨g0, 4, none⟩ = some (.int .i64 c1) ∧ w3.drew.cell? ⟨g0, 5, none⟩ = some (.int .i64 c2) ∧ w3.drew.cell? ⟨g0, 6, none⟩ = some (.int .i64 c3) ∧ w3.drew.cell? ⟨g0, 7, none⟩ = some (.int .i64 c4) ∧ w3.drew.cell? ⟨g0, 8, none⟩ = some (.int .i64 c5)) ∧ w3.drew.cell? ⟨g, off + k * 3 + 2, none⟩ = some (.string o.s) := ⟨hX0d.cells9, e2⟩
    clear e2
    refine wp_region_noPanic ?_
    refine ordM_begin (fun W : World => (W.cell? ⟨g0, 0, none⟩ = some (.int .i64 m) ∧ W.cell? ⟨g0, 1, none⟩ = some (.int .i64 b) ∧ W.cell? ⟨g0, 2, none⟩ = some (.slice (some ⟨g, off, none⟩) n cap) ∧ W.cell? ⟨g0, 3, none⟩ = some (.int .i64 c0) ∧ W.cell? ⟨g0, 4, none⟩ = some (.int .i64 c1) ∧ W.cell? ⟨g0, 5, none⟩ = some (.int .i64 c2) ∧ W.cell? ⟨g0, 6, none⟩ = some (.int .i64 c3) ∧ W.cell? ⟨g0, 7, none⟩ = some (.int .i64 c4) ∧ W.cell? ⟨g0, 8, none⟩ = some (.int .i64 c5)) ∧ W.cell? ⟨g, off + k * 3 + 2, none⟩ = some (.string o.s)) (fun i => false) (by kernel_rfl) hSd ?_
    generalize w3.drew = w4 at hX0d hX1d hLd hb3d hszd hlt0 hltg hSd ⊢
    refine ordM_take 0 ?vq7 rfl (by kernel_rfl) (by kernel_rfl) (by kernel_rfl) (by kernel_rfl) (fun _ _ _ h => h) (by rfl) ?hq7 (by assumption) ?rq7
    case hq7 => (intro W hSw; (try dsimp only at hSw); go_simp <;> with_reducible rfl)
    (try simp only [Act.put, List.setIfInBounds_toArray, List.set_cons_zero, List.set_cons_succ])
    refine ordM_take 1 ?vq8 rfl (by kernel_rfl) (by kernel_rfl) (by kernel_rfl) (by kernel_rfl) (fun _ _ _ h => h) (by rfl) ?hq8 (by assumption) ?rq8
    case hq8 => (intro W hSw; (try dsimp only at hSw); go_simp <;> with_reducible rfl)
    (try simp only [Act.put, List.setIfInBounds_toArray, List.set_cons_zero, List.set_cons_succ])
    refine ordM_take 2 ?vq9 rfl (by kernel_rfl) (by kernel_rfl) (by kernel_rfl) (by kernel_rfl) (fun _ _ _ h => h) (by rfl) ?hq9 (by assumption) ?rq9
    case hq9 => (intro W hSw; (try dsimp only at hSw); go_simp <;> with_reducible rfl)
    (try simp only [Act.put, List.setIfInBounds_toArray, List.set_cons_zero, List.set_cons_succ])
    refine ordM_take 3 ?vq10 rfl (by kernel_rfl) (by kernel_rfl) (by kernel_rfl) (by kernel_rfl) (fun _ _ _ h => h) (by rfl) ?hq10 (by assumption) ?rq10
    case hq10 => (intro W hSw; (try dsimp only at hSw); go_simp <;> with_reducible rfl)
    (try simp only [Act.put, List.setIfInBounds_toArray, List.set_cons_zero, List.set_cons_succ])
    refine ordM_take 4 ?vq11 rfl (by kernel_rfl) (by kernel_rfl) (by kernel_rfl) (by kernel_rfl) (fun _ _ _ h => h) (by rfl) ?hq11 (by assumption) ?rq11
    case hq11 => (intro W hSw; (try dsimp only at hSw); go_simp <;> with_reducible rfl)
    (try simp only [Act.put, List.setIfInBounds_toArray, List.set_cons_zero, List.set_cons_succ])
    refine ordM_take 5 ?vq12 rfl (by kernel_rfl) (by kernel_rfl) (by kernel_rfl) (by kernel_rfl) (fun _ _ _ h => h) (by rfl) ?hq12 (by assumption) ?rq12
    case hq12 => (intro W hSw; (try dsimp only at hSw); go_simp <;> with_reducible rfl)
    (try simp only [Act.put, List.setIfInBounds_toArray, List.set_cons_zero, List.set_cons_succ])
    refine ordM_take 6 ?vq13 rfl (by kernel_rfl) (by kernel_rfl) (by kernel_rfl) (by kernel_rfl) (fun _ _ _ h => h) (by rfl) ?hq13 (by assumption) ?rq13
    case hq13 => (intro W hSw; (try dsimp only at hSw); go_simp <;> with_reducible rfl)
    (try simp only [Act.put, List.setIfInBounds_toArray, List.set_cons_zero, List.set_cons_succ])
    refine ordM_take 7 ?vq14 rfl (by kernel_rfl) (by kernel_rfl) (by kernel_rfl) (by kernel_rfl) (fun _ _ _ h => h) (by rfl) ?hq14 (by assumption) ?rq14
    case hq14 => (intro W hSw; (try dsimp only at hSw); go_simp <;> with_reducible rfl)
    (try simp only [Act.put, List.setIfInBounds_toArray, List.set_cons_zero, List.set_cons_succ])
    refine ordM_take 8 ?vq15 rfl (by kernel_rfl) (by kernel_rfl) (by kernel_rfl) (by kernel_rfl) (fun _ _ _ h => h) (by rfl) ?hq15 (by assumption) ?rq15
    case hq15 => (intro W hSw; (try dsimp only at hSw); go_simp <;> with_reducible rfl)
    (try simp only [Act.put, List.setIfInBounds_toArray, List.set_cons_zero, List.set_cons_succ])
    have HPUT := Lib.hid (fun (W : World) (hbW : Below w4.heap.size w4 W) => refNePut_any m b c0 c1 c2 c3 c4 c5 a p o.s (hLd.later hbW) hn (fun o' ho' => (hx o' ho')) (by omega))
    unfold neRv at HPUT
    have HTW := Lib.hid (NeTwinR.some (m := m) (b := b) k o hat)
    generalize neMay m b (odG l a p) a p o.s = y at *
    generalize odPut y l a p o.s = lq at *
    refine ordM_ready [9, 13] (by kernel_rfl) (by simp) ?_
    refine AllReadyM.cons rfl (fun K hK => ?_) (AllReadyM.cons rfl (fun K hK => ?_) AllReadyM.nil)
    · go_simp
      go_at_call 39
      refine (HPUT.out _ (Below.refl _ _)).mono ?_
      rintro e wq ⟨vq, rfl, hOq, hbq⟩
      obtain ⟨aq, kq, rfl⟩ := hOq.formG
      (try go_wp2_with fail)
      have hbQ : Below w4.heap.size w4 wq := hbq
      have hSq : (wq.cell? ⟨g0, 0, none⟩ = some (.int .i64 m) ∧ wq.cell? ⟨g0, 1, none⟩ = some (.int .i64 b) ∧ wq.cell? ⟨g0, 2, none⟩ = some (.slice (some ⟨g, off, none⟩) n cap) ∧ wq.cell? ⟨g0, 3, none⟩ = some (.int .i64 c0) ∧ wq.cell? ⟨g0, 4, none⟩ = some (.int .i64 c1) ∧ wq.cell? ⟨g0, 5, none⟩ = some (.int .i64 c2) ∧ wq.cell? ⟨g0, 6, none⟩ = some (.int .i64 c3) ∧ wq.cell? ⟨g0, 7, none⟩ = some (.int .i64 c4) ∧ wq.cell? ⟨g0, 8, none⟩ = some (.int .i64 c5)) ∧ wq.cell? ⟨g, off + k * 3 + 2, none⟩ = some (.string o.s) := ⟨⟨by rw [cell_same (hbQ.block g0 hlt0)]; exact hSd.1.1, by rw [cell_same (hbQ.block g0 hlt0)]; exact hSd.1.2.1, by rw [cell_same (hbQ.block g0 hlt0)]; exact hSd.1.2.2.1, by rw [cell_same (hbQ.block g0 hlt0)]; exact hSd.1.2.2.2.1, by rw [cell_same (hbQ.block g0 hlt0)]; exact hSd.1.2.2.2.2.1, by rw [cell_same (hbQ.block g0 hlt0)]; exact hSd.1.2.2.2.2.2.1, by rw [cell_same (hbQ.block g0 hlt0)]; exact hSd.1.2.2.2.2.2.2.1, by rw [cell_same (hbQ.block g0 hlt0)]; exact hSd.1.2.2.2.2.2.2.2.1, by rw [cell_same (hbQ.block g0 hlt0)]; exact hSd.1.2.2.2.2.2.2.2.2⟩, by rw [cell_same (hbQ.block g hltg)]; exact hSd.2⟩
      refine hK.out _ _ (fun _ => hSq) ?_
      clear hK K
      (try simp only [Act.put, List.setIfInBounds_toArray, List.set_cons_zero, List.set_cons_succ])
      refine ordM_take 10 ?vq1 rfl (by kernel_rfl) (by kernel_rfl) (by kernel_rfl) (by kernel_rfl) (fun _ _ _ h => h) (by rfl) ?hq1 (by assumption) ?rq1
      case hq1 => (intro W hSw; (try dsimp only at hSw); go_simp <;> with_reducible rfl)
      (try simp only [Act.put, List.setIfInBounds_toArray, List.set_cons_zero, List.set_cons_succ])
      refine ordM_take 11 ?vq2 rfl (by kernel_rfl) (by kernel_rfl) (by kernel_rfl) (by kernel_rfl) (fun _ _ _ h => h) (by rfl) ?hq2 (by assumption) ?rq2
      case hq2 => (intro W hSw; (try dsimp only at hSw); go_simp <;> with_reducible rfl)
      (try simp only [Act.put, List.setIfInBounds_toArray, List.set_cons_zero, List.set_cons_succ])
      refine ordM_take 12 ?vq3 rfl (by kernel_rfl) (by kernel_rfl) (by kernel_rfl) (by kernel_rfl) (fun _ _ _ h => h) (by rfl) ?hq3 (by assumption) ?rq3
      case hq3 => (intro W hSw; (try dsimp only at hSw); go_simp <;> with_reducible rfl)
      (try simp only [Act.put, List.setIfInBounds_toArray, List.set_cons_zero, List.set_cons_succ])
      refine ordM_ready [13] (by kernel_rfl) (by simp) ?_
      refine AllReadyM.cons rfl (fun K hK => ?_) AllReadyM.nil
      go_simp
      have hal : Below wq.heap.size wq (wq.alloc (.cells #[.int .i64 0, .int .i64 0, .slice none 0 0, .int .i64 0, .int .i64 0, .int .i64 0, .int .i64 0, .int .i64 0, .int .i64 0] 34)) := (Below.refl _ _).alloc (Nat.le_refl _) _
      have hbR : Below w4.heap.size w4 (wq.alloc (.cells #[.int .i64 0, .int .i64 0, .slice none 0 0, .int .i64 0, .int .i64 0, .int .i64 0, .int .i64 0, .int .i64 0, .int .i64 0] 34)) := hbQ.trans (hal.mono hbQ.size)
      have hSr : ((wq.alloc (.cells #[.int .i64 0, .int .i64 0, .slice none 0 0, .int .i64 0, .int .i64 0, .int .i64 0, .int .i64 0, .int .i64 0, .int .i64 0] 34)).cell? ⟨g0, 0, none⟩ = some (.int .i64 m) ∧ (wq.alloc (.cells #[.int .i64 0, .int .i64 0, .slice none 0 0, .int .i64 0, .int .i64 0, .int .i64 0, .int .i64 0, .int .i64 0, .int .i64 0] 34)).cell? ⟨g0, 1, none⟩ = some (.int .i64 b) ∧ (wq.alloc (.cells #[.int .i64 0, .int .i64 0, .slice none 0 0, .int .i64 0, .int .i64 0, .int .i64 0, .int .i64 0, .int .i64 0, .int .i64 0] 34)).cell? ⟨g0, 2, none⟩ = some (.slice (some ⟨g, off, none⟩) n cap) ∧ (wq.alloc (.cells #[.int .i64 0, .int .i64 0, .slice none 0 0, .int .i64 0, .int .i64 0, .int .i64 0, .int .i64 0, .int .i64 0, .int .i64 0] 34)).cell? ⟨g0, 3, none⟩ = some (.int .i64 c0) ∧ (wq.alloc (.cells #[.int .i64 0, .int .i64 0, .slice none 0 0, .int .i64 0, .int .i64 0, .int .i64 0, .int .i64 0, .int .i64 0, .int .i64 0] 34)).cell? ⟨g0, 4, none⟩ = some (.int .i64 c1) ∧ (wq.alloc (.cells #[.int .i64 0, .int .i64 0, .slice none 0 0, .int .i64 0, .int .i64 0, .int .i64 0, .int .i64 0, .int .i64 0, .int .i64 0] 34)).cell? ⟨g0, 5, none⟩ = some (.int .i64 c2) ∧ (wq.alloc (.cells #[.int .i64 0, .int .i64 0, .slice none 0 0, .int .i64 0, .int .i64 0, .int .i64 0, .int .i64 0, .int .i64 0, .int .i64 0] 34)).cell? ⟨g0, 6, none⟩ = some (.int .i64 c3) ∧ (wq.alloc (.cells #[.int .i64 0, .int .i64 0, .slice none 0 0, .int .i64 0, .int .i64 0, .int .i64 0, .int .i64 0, .int .i64 0, .int .i64 0] 34)).cell? ⟨g0, 7, none⟩ = some (.int .i64 c4) ∧ (wq.alloc (.cells #[.int .i64 0, .int .i64 0, .slice none 0 0, .int .i64 0, .int .i64 0, .int .i64 0, .int .i64 0, .int .i64 0, .int .i64 0] 34)).cell? ⟨g0, 8, none⟩ = some (.int .i64 c5)) ∧ (wq.alloc (.cells #[.int .i64 0, .int .i64 0, .slice none 0 0, .int .i64 0, .int .i64 0, .int .i64 0, .int .i64 0, .int .i64 0, .int .i64 0] 34)).cell? ⟨g, off + k * 3 + 2, none⟩ = some (.string o.s) := ⟨⟨by rw [cell_same (hbR.block g0 hlt0)]; exact hSd.1.1, by rw [cell_same (hbR.block g0 hlt0)]; exact hSd.1.2.1, by rw [cell_same (hbR.block g0 hlt0)]; exact hSd.1.2.2.1, by rw [cell_same (hbR.block g0 hlt0)]; exact hSd.1.2.2.2.1, by rw [cell_same (hbR.block g0 hlt0)]; exact hSd.1.2.2.2.2.1, by rw [cell_same (hbR.block g0 hlt0)]; exact hSd.1.2.2.2.2.2.1, by rw [cell_same (hbR.block g0 hlt0)]; exact hSd.1.2.2.2.2.2.2.1, by rw [cell_same (hbR.block g0 hlt0)]; exact hSd.1.2.2.2.2.2.2.2.1, by rw [cell_same (hbR.block g0 hlt0)]; exact hSd.1.2.2.2.2.2.2.2.2⟩, by rw [cell_same (hbR.block g hltg)]; exact hSd.2⟩
      refine hK.out _ _ (fun _ => hSr) ?_
      clear hK K
      (try simp only [Act.put, List.setIfInBounds_toArray, List.set_cons_zero, List.set_cons_succ])
      have hX2 := atQ_new 34 wq wq.heap.size #[.int .i64 0, .int .i64 0, .slice none 0 0, .int .i64 0, .int .i64 0, .int .i64 0, .int .i64 0, .int .i64 0, .int .i64 0] rfl
      have hOr := hOq.later hal
      have hg2 : w4.heap.size ≤ wq.heap.size := hbQ.size
      generalize (wq.alloc (.cells #[.int .i64 0, .int .i64 0, .slice none 0 0, .int .i64 0, .int .i64 0, .int .i64 0, .int .i64 0, .int .i64 0, .int .i64 0] 34)) = wr at hal hbR hSr hX2 hOr ⊢
      generalize wq.heap.size = g2 at hX2 hg2 ⊢
      clear hal hSq hbq hbQ hOq
      obtain ⟨y0, y1, y2, y3, y4, y5, y6, y7, y8⟩ := hX2.frees9
      obtain ⟨z0, z1, z2, z3, z4, z5, z6, z7, z8⟩ := hX2.cells9
      have hpo := put9_only wr g2 (.int .i64 m) (.int .i64 b) (.slice aq lq.length kq) (.int .i64 c0) (.int .i64 c1) (.int .i64 c2) (.int .i64 c3) (.int .i64 c4) (.int .i64 c5)
      have hne0 : g0 ≠ g2 := by omega
      have hneg : g ≠ g2 := by omega
      have hbW : Below w4.heap.size w4 (((((((((wr.setCell ⟨g2, 0, none⟩ (.int .i64 m)).setCell ⟨g2, 1, none⟩ (.int .i64 b)).setCell ⟨g2, 2, none⟩ (.slice aq lq.length kq)).setCell ⟨g2, 3, none⟩ (.int .i64 c0)).setCell ⟨g2, 4, none⟩ (.int .i64 c1)).setCell ⟨g2, 5, none⟩ (.int .i64 c2)).setCell ⟨g2, 6, none⟩ (.int .i64 c3)).setCell ⟨g2, 7, none⟩ (.int .i64 c4)).setCell ⟨g2, 8, none⟩ (.int .i64 c5)) := hbR.trans (hpo.below hg2)
      have hSw2 : ((((((((((wr.setCell ⟨g2, 0, none⟩ (.int .i64 m)).setCell ⟨g2, 1, none⟩ (.int .i64 b)).setCell ⟨g2, 2, none⟩ (.slice aq lq.length kq)).setCell ⟨g2, 3, none⟩ (.int .i64 c0)).setCell ⟨g2, 4, none⟩ (.int .i64 c1)).setCell ⟨g2, 5, none⟩ (.int .i64 c2)).setCell ⟨g2, 6, none⟩ (.int .i64 c3)).setCell ⟨g2, 7, none⟩ (.int .i64 c4)).setCell ⟨g2, 8, none⟩ (.int .i64 c5)).cell? ⟨g0, 0, none⟩ = some (.int .i64 m) ∧ (((((((((wr.setCell ⟨g2, 0, none⟩ (.int .i64 m)).setCell ⟨g2, 1, none⟩ (.int .i64 b)).setCell ⟨g2, 2, none⟩ (.slice aq lq.length kq)).setCell ⟨g2, 3, none⟩ (.int .i64 c0)).setCell ⟨g2, 4, none⟩ (.int .i64 c1)).setCell ⟨g2, 5, none⟩ (.int .i64 c2)).setCell ⟨g2, 6, none⟩ (.int .i64 c3)).setCell ⟨g2, 7, none⟩ (.int .i64 c4)).setCell ⟨g2, 8, none⟩ (.int .i64 c5)).cell? ⟨g0, 1, none⟩ = some (.int .i64 b) ∧ (((((((((wr.setCell ⟨g2, 0, none⟩ (.int .i64 m)).setCell ⟨g2, 1, none⟩ (.int .i64 b)).setCell ⟨g2, 2, none⟩ (.slice aq lq.length kq)).setCell ⟨g2, 3, none⟩ (.int .i64 c0)).setCell ⟨g2, 4, none⟩ (.int .i64 c1)).setCell ⟨g2, 5, none⟩ (.int .i64 c2)).setCell ⟨g2, 6, none⟩ (.int .i64 c3)).setCell ⟨g2, 7, none⟩ (.int .i64 c4)).setCell ⟨g2, 8, none⟩ (.int .i64 c5)).cell? ⟨g0, 2, none⟩ = some (.slice (some ⟨g, off, none⟩) n cap) ∧ (((((((((wr.setCell ⟨g2, 0, none⟩ (.int .i64 m)).setCell ⟨g2, 1, none⟩ (.int .i64 b)).setCell ⟨g2, 2, none⟩ (.slice aq lq.length kq)).setCell ⟨g2, 3, none⟩ (.int .i64 c0)).setCell ⟨g2, 4, none⟩ (.int .i64 c1)).setCell ⟨g2, 5, none⟩ (.int .i64 c2)).setCell ⟨g2, 6, none⟩ (.int .i64 c3)).setCell ⟨g2, 7, none⟩ (.int .i64 c4)).setCell ⟨g2, 8, none⟩ (.int .i64 c5)).cell? ⟨g0, 3, none⟩ = some (.int .i64 c0) ∧ (((((((((wr.setCell ⟨g2, 0, none⟩ (.int .i64 m)).setCell ⟨g2, 1, none⟩ (.int .i64 b)).setCell ⟨g2, 2, none⟩ (.slice aq lq.length kq)).setCell ⟨g2, 3, none⟩ (.int .i64 c0)).setCell ⟨g2, 4, none⟩ (.int .i64 c1)).setCell ⟨g2, 5, none⟩ (.int .i64 c2)).setCell ⟨g2, 6, none⟩ (.int .i64 c3)).setCell ⟨g2, 7, none⟩ (.int .i64 c4)).setCell ⟨g2, 8, none⟩ (.int .i64 c5)).cell? ⟨g0, 4, none⟩ = some (.int .i64 c1) ∧ (((((((((wr.setCell ⟨g2, 0, none⟩ (.int .i64 m)).setCell ⟨g2, 1, none⟩ (.int .i64 b)).setCell ⟨g2, 2, none⟩ (.slice aq lq.length kq)).setCell ⟨g2, 3, none⟩ (.int .i64 c0)).setCell ⟨g2, 4, none⟩ (.int .i64 c1)).setCell ⟨g2, 5, none⟩ (.int .i64 c2)).setCell ⟨g2, 6, none⟩ (.int .i64 c3)).setCell ⟨g2, 7, none⟩ (.int .i64 c4)).setCell ⟨g2, 8, none⟩ (.int .i64 c5)).cell? ⟨g0, 5, none⟩ = some (.int .i64 c2) ∧ (((((((((wr.setCell ⟨g2, 0, none⟩ (.int .i64 m)).setCell ⟨g2, 1, none⟩ (.int .i64 b)).setCell ⟨g2, 2, none⟩ (.slice aq lq.length kq)).setCell ⟨g2, 3, none⟩ (.int .i64 c0)).setCell ⟨g2, 4, none⟩ (.int .i64 c1)).setCell ⟨g2, 5, none⟩ (.int .i64 c2)).setCell ⟨g2, 6, none⟩ (.int .i64 c3)).setCell ⟨g2, 7, none⟩ (.int .i64 c4)).setCell ⟨g2, 8, none⟩ (.int .i64 c5)).cell? ⟨g0, 6, none⟩ = some (.int .i64 c3) ∧ (((((((((wr.setCell ⟨g2, 0, none⟩ (.int .i64 m)).setCell ⟨g2, 1, none⟩ (.int .i64 b)).setCell ⟨g2, 2, none⟩ (.slice aq lq.length kq)).setCell ⟨g2, 3, none⟩ (.int .i64 c0)).setCell ⟨g2, 4, none⟩ (.int .i64 c1)).setCell ⟨g2, 5, none⟩ (.int .i64 c2)).setCell ⟨g2, 6, none⟩ (.int .i64 c3)).setCell ⟨g2, 7, none⟩ (.int .i64 c4)).setCell ⟨g2, 8, none⟩ (.int .i64 c5)).cell? ⟨g0, 7, none⟩ = some (.int .i64 c4) ∧ (((((((((wr.setCell ⟨g2, 0, none⟩ (.int .i64 m)).setCell ⟨g2, 1, none⟩ (.int .i64 b)).setCell ⟨g2, 2, none⟩ (.slice aq lq.length kq)).setCell ⟨g2, 3, none⟩ (.int .i64 c0)).setCell ⟨g2, 4, none⟩ (.int .i64 c1)).setCell ⟨g2, 5, none⟩ (.int .i64 c2)).setCell ⟨g2, 6, none⟩ (.int .i64 c3)).setCell ⟨g2, 7, none⟩ (.int .i64 c4)).setCell ⟨g2, 8, none⟩ (.int .i64 c5)).cell? ⟨g0, 8, none⟩ = some (.int .i64 c5)) ∧ (((((((((wr.setCell ⟨g2, 0, none⟩ (.int .i64 m)).setCell ⟨g2, 1, none⟩ (.int .i64 b)).setCell ⟨g2, 2, none⟩ (.slice aq lq.length kq)).setCell ⟨g2, 3, none⟩ (.int .i64 c0)).setCell ⟨g2, 4, none⟩ (.int .i64 c1)).setCell ⟨g2, 5, none⟩ (.int .i64 c2)).setCell ⟨g2, 6, none⟩ (.int .i64 c3)).setCell ⟨g2, 7, none⟩ (.int .i64 c4)).setCell ⟨g2, 8, none⟩ (.int .i64 c5)).cell? ⟨g, off + k * 3 + 2, none⟩ = some (.string o.s) := ⟨⟨by rw [cell_same (hbW.block g0 hlt0)]; exact hSd.1.1, by rw [cell_same (hbW.block g0 hlt0)]; exact hSd.1.2.1, by rw [cell_same (hbW.block g0 hlt0)]; exact hSd.1.2.2.1, by rw [cell_same (hbW.block g0 hlt0)]; exact hSd.1.2.2.2.1, by rw [cell_same (hbW.block g0 hlt0)]; exact hSd.1.2.2.2.2.1, by rw [cell_same (hbW.block g0 hlt0)]; exact hSd.1.2.2.2.2.2.1, by rw [cell_same (hbW.block g0 hlt0)]; exact hSd.1.2.2.2.2.2.2.1, by rw [cell_same (hbW.block g0 hlt0)]; exact hSd.1.2.2.2.2.2.2.2.1, by rw [cell_same (hbW.block g0 hlt0)]; exact hSd.1.2.2.2.2.2.2.2.2⟩, by rw [cell_same (hbW.block g hltg)]; exact hSd.2⟩
      refine ordM_ready [14] (by kernel_rfl) (by simp) ?_
      refine AllReadyM.cons rfl (fun K hK => ?_) AllReadyM.nil
      go_simp
      refine hK.out _ _ (fun _ => hSw2) ?_
      clear hK K
      (try simp only [Act.put, List.setIfInBounds_toArray, List.set_cons_zero, List.set_cons_succ])
      refine ordM_take 15 ?vq16 rfl (by kernel_rfl) (by kernel_rfl) (by kernel_rfl) (by kernel_rfl) (fun _ _ _ h => h) (by rfl) ?hq16 (by assumption) ?rq16
      case hq16 => (intro W hSw; (try dsimp only at hSw); go_simp <;> with_reducible rfl)
      (try simp only [Act.put, List.setIfInBounds_toArray, List.set_cons_zero, List.set_cons_succ])
      refine ordM_done (by kernel_rfl) ?_ _
      refine NoPanic.normal ?_
      have hX2' := atQ9_put hX2 (.int .i64 m) (.int .i64 b) (.slice aq lq.length kq) (.int .i64 c0) (.int .i64 c1) (.int .i64 c2) (.int .i64 c3) (.int .i64 c4) (.int .i64 c5)
      have hX1r := hX1d.later hbR
      have hne : g1 ≠ g2 := by have := hX1d.lt; omega
      have hX17 := hX1r.only hne hpo
      have hO7 := hOr.keep (W' := (((((((((wr.setCell ⟨g2, 0, none⟩ (.int .i64 m)).setCell ⟨g2, 1, none⟩ (.int .i64 b)).setCell ⟨g2, 2, none⟩ (.slice aq lq.length kq)).setCell ⟨g2, 3, none⟩ (.int .i64 c0)).setCell ⟨g2, 4, none⟩ (.int .i64 c1)).setCell ⟨g2, 5, none⟩ (.int .i64 c2)).setCell ⟨g2, 6, none⟩ (.int .i64 c3)).setCell ⟨g2, 7, none⟩ (.int .i64 c4)).setCell ⟨g2, 8, none⟩ (.int .i64 c5))) (by rw [hpo.size]; exact Nat.le_refl _) (fun k cs hk hc => hpo.block k (fun e' => by
        subst e'
        exact blkQ_ne (T := 84) (T' := 34) hc hX2 (by decide) rfl))
      have hb7 := hb3d.trans (hbW.mono hszd)
      have hsz7 : g0 ≤ g2 := by omega
      generalize (((((((((wr.setCell ⟨g2, 0, none⟩ (.int .i64 m)).setCell ⟨g2, 1, none⟩ (.int .i64 b)).setCell ⟨g2, 2, none⟩ (.slice aq lq.length kq)).setCell ⟨g2, 3, none⟩ (.int .i64 c0)).setCell ⟨g2, 4, none⟩ (.int .i64 c1)).setCell ⟨g2, 5, none⟩ (.int .i64 c2)).setCell ⟨g2, 6, none⟩ (.int .i64 c3)).setCell ⟨g2, 7, none⟩ (.int .i64 c4)).setCell ⟨g2, 8, none⟩ (.int .i64 c5)) = w7 at hX2' hX17 hO7 hb7 ⊢
      clear hX2 hX1r hbW hSw2 hpo hbR hSr hOr y0 y1 y2 y3 y4 y5 y6 y7 y8 z0 z1 z2 z3 z4 z5 z6 z7 z8
      have hX2 := hX2'
      clear hX2'
      clear hX0d hX1d hLd hb3d hSd hX0' hX1' hb3' hL3 HPUT
      obtain ⟨_, _, _, _, _, _, _, _, _⟩ := hX2.cells9
      obtain ⟨_, _, _, _, _, _, _, _, _⟩ := hX2.frees9
      cases y with
      | false =>
        go_upto_region 7 with fail
        obtain ⟨_, _, _, _, _, _, _, _, _⟩ := hX2.cells9
        obtain ⟨_, _, _, _, _, _, _, _, _⟩ := hX17.frees9
        obtain ⟨_, _, _, _, _, _, _, _, _⟩ := hX17.cells9
        have hZ := atQ9_put hX17 (.int .i64 m) (.int .i64 b) (.slice aq lq.length kq) (.int .i64 c0) (.int .i64 c1) (.int .i64 c2) (.int .i64 c3) (.int .i64 c4) (.int .i64 c5)
        have hbz := hb7.trans ((put9_only w7 g1 (.int .i64 m) (.int .i64 b) (.slice aq lq.length kq) (.int .i64 c0) (.int .i64 c1) (.int .i64 c2) (.int .i64 c3) (.int .i64 c4) (.int .i64 c5)).below hle1)
        have hLz := hO7.keep (W' := (((((((((w7.setCell ⟨g1, 0, none⟩ (.int .i64 m)).setCell ⟨g1, 1, none⟩ (.int .i64 b)).setCell ⟨g1, 2, none⟩ (.slice aq lq.length kq)).setCell ⟨g1, 3, none⟩ (.int .i64 c0)).setCell ⟨g1, 4, none⟩ (.int .i64 c1)).setCell ⟨g1, 5, none⟩ (.int .i64 c2)).setCell ⟨g1, 6, none⟩ (.int .i64 c3)).setCell ⟨g1, 7, none⟩ (.int .i64 c4)).setCell ⟨g1, 8, none⟩ (.int .i64 c5))) (by rw [(put9_only w7 g1 (.int .i64 m) (.int .i64 b) (.slice aq lq.length kq) (.int .i64 c0) (.int .i64 c1) (.int .i64 c2) (.int .i64 c3) (.int .i64 c4) (.int .i64 c5)).size]; exact Nat.le_refl _) (fun k cs hk hc => (put9_only w7 g1 (.int .i64 m) (.int .i64 b) (.slice aq lq.length kq) (.int .i64 c0) (.int .i64 c1) (.int .i64 c2) (.int .i64 c3) (.int .i64 c4) (.int .i64 c5)).block k (fun e' => by
          subst e'
          exact blkQ_ne (T := 84) (T' := 34) hc hX17 (by decide) rfl))
        obtain ⟨d0, d1, d2, d3, d4, d5, d6, d7, d8⟩ := hZ.cells9
        have HBZ := Lib.hid hbz
        have HLZ := Lib.hid hLz
        clear hX17 hX2 hb7 hO7 hZ hbz hLz
        repeat (first | go_skip | go_guarded | go_step | go_upon | go_back)
        refine bodyPost_ret (v := .tuple #[.agg #[.int .i64 m, .int .i64 b, .slice aq lq.length kq, .int .i64 c0, .int .i64 c1, .int .i64 c2, .int .i64 c3, .int .i64 c4, .int .i64 c5], .bool false]) (by simp [results, Try.results25, go_sem, d0, d1, d2, d3, d4, d5, d6, d7, d8]) rfl ⟨false, lq, .slice aq lq.length kq, rfl, HTW.out, HLZ.out, by rw [HG.out]; exact HBZ.out⟩
      | true =>
        have hwr : IntKind.i64.wrap (c3 + 1) = c3 + 1 := IntWalk.i64_in _ ⟨by omega, by omega⟩
        have hX2c := atQ9_set6 hX2 (.int .i64 (c3 + 1))
        have ho := (Only.refl g2 w7).setCell 6 (.int .i64 (c3 + 1))
        have hX1c := hX17.only hne ho
        have hbc := hb7.trans (ho.below hsz7)
        have hOc := hO7.keep (W' := w7.setCell ⟨g2, 6, none⟩ (.int .i64 (c3 + 1))) (by rw [ho.size]; exact Nat.le_refl _) (fun k cs hk hc => ho.block k (fun e' => by
          subst e'
          exact blkQ_ne (T := 84) (T' := 34) hc hX2 (by decide) rfl))
        go_upto_region 7 with fail
        generalize (w7.setCell ⟨g2, 6, none⟩ (.int .i64 (c3 + 1))) = w8 at *
        clear hX2 hX17 hO7 hb7 ho
        obtain ⟨_, _, _, _, _, _, _, _, _⟩ := hX2c.cells9
        obtain ⟨_, _, _, _, _, _, _, _, _⟩ := hX1c.frees9
        obtain ⟨_, _, _, _, _, _, _, _, _⟩ := hX1c.cells9
        have hZ := atQ9_put hX1c (.int .i64 m) (.int .i64 b) (.slice aq lq.length kq) (.int .i64 c0) (.int .i64 c1) (.int .i64 c2) (.int .i64 (c3 + 1)) (.int .i64 c4) (.int .i64 c5)
        have hbz := hbc.trans ((put9_only w8 g1 (.int .i64 m) (.int .i64 b) (.slice aq lq.length kq) (.int .i64 c0) (.int .i64 c1) (.int .i64 c2) (.int .i64 (c3 + 1)) (.int .i64 c4) (.int .i64 c5)).below hle1)
        have hLz := hOc.keep (W' := (((((((((w8.setCell ⟨g1, 0, none⟩ (.int .i64 m)).setCell ⟨g1, 1, none⟩ (.int .i64 b)).setCell ⟨g1, 2, none⟩ (.slice aq lq.length kq)).setCell ⟨g1, 3, none⟩ (.int .i64 c0)).setCell ⟨g1, 4, none⟩ (.int .i64 c1)).setCell ⟨g1, 5, none⟩ (.int .i64 c2)).setCell ⟨g1, 6, none⟩ (.int .i64 (c3 + 1))).setCell ⟨g1, 7, none⟩ (.int .i64 c4)).setCell ⟨g1, 8, none⟩ (.int .i64 c5))) (by rw [(put9_only w8 g1 (.int .i64 m) (.int .i64 b) (.slice aq lq.length kq) (.int .i64 c0) (.int .i64 c1) (.int .i64 c2) (.int .i64 (c3 + 1)) (.int .i64 c4) (.int .i64 c5)).size]; exact Nat.le_refl _) (fun k cs hk hc => (put9_only w8 g1 (.int .i64 m) (.int .i64 b) (.slice aq lq.length kq) (.int .i64 c0) (.int .i64 c1) (.int .i64 c2) (.int .i64 (c3 + 1)) (.int .i64 c4) (.int .i64 c5)).block k (fun e' => by
          subst e'
          exact blkQ_ne (T := 84) (T' := 34) hc hX1c (by decide) rfl))
        obtain ⟨d0, d1, d2, d3, d4, d5, d6, d7, d8⟩ := hZ.cells9
        have HBZ := Lib.hid hbz
        have HLZ := Lib.hid hLz
        clear hX1c hX2c hbc hOc hZ hbz hLz
        repeat (first | go_skip | go_guarded | go_step | go_upon | go_back)
        refine bodyPost_ret (v := .tuple #[.agg #[.int .i64 m, .int .i64 b, .slice aq lq.length kq, .int .i64 c0, .int .i64 c1, .int .i64 c2, .int .i64 (c3 + 1), .int .i64 c4, .int .i64 c5], .bool true]) (by simp [results, Try.results25, go_sem, d0, d1, d2, d3, d4, d5, d6, d7, d8]) rfl ⟨true, lq, .slice aq lq.length kq, rfl, HTW.out, HLZ.out, by rw [HG.out]; exact HBZ.out⟩
    · go_simp
      have hal : Below w4.heap.size w4 (w4.alloc (.cells #[.int .i64 0, .int .i64 0, .slice none 0 0, .int .i64 0, .int .i64 0, .int .i64 0, .int .i64 0, .int .i64 0, .int .i64 0] 34)) := (Below.refl _ _).alloc (Nat.le_refl _) _
      have hSq : ((w4.alloc (.cells #[.int .i64 0, .int .i64 0, .slice none 0 0, .int .i64 0, .int .i64 0, .int .i64 0, .int .i64 0, .int .i64 0, .int .i64 0] 34)).cell? ⟨g0, 0, none⟩ = some (.int .i64 m) ∧ (w4.alloc (.cells #[.int .i64 0, .int .i64 0, .slice none 0 0, .int .i64 0, .int .i64 0, .int .i64 0, .int .i64 0, .int .i64 0, .int .i64 0] 34)).cell? ⟨g0, 1, none⟩ = some (.int .i64 b) ∧ (w4.alloc (.cells #[.int .i64 0, .int .i64 0, .slice none 0 0, .int .i64 0, .int .i64 0, .int .i64 0, .int .i64 0, .int .i64 0, .int .i64 0] 34)).cell? ⟨g0, 2, none⟩ = some (.slice (some ⟨g, off, none⟩) n cap) ∧ (w4.alloc (.cells #[.int .i64 0, .int .i64 0, .slice none 0 0, .int .i64 0, .int .i64 0, .int .i64 0, .int .i64 0, .int .i64 0, .int .i64 0] 34)).cell? ⟨g0, 3, none⟩ = some (.int .i64 c0) ∧ (w4.alloc (.cells #[.int .i64 0, .int .i64 0, .slice none 0 0, .int .i64 0, .int .i64 0, .int .i64 0, .int .i64 0, .int .i64 0, .int .i64 0] 34)).cell? ⟨g0, 4, none⟩ = some (.int .i64 c1) ∧ (w4.alloc (.cells #[.int .i64 0, .int .i64 0, .slice none 0 0, .int .i64 0, .int .i64 0, .int .i64 0, .int .i64 0, .int .i64 0, .int .i64 0] 34)).cell? ⟨g0, 5, none⟩ = some (.int .i64 c2) ∧ (w4.alloc (.cells #[.int .i64 0, .int .i64 0, .slice none 0 0, .int .i64 0, .int .i64 0, .int .i64 0, .int .i64 0, .int .i64 0, .int .i64 0] 34)).cell? ⟨g0, 6, none⟩ = some (.int .i64 c3) ∧ (w4.alloc (.cells #[.int .i64 0, .int .i64 0, .slice none 0 0, .int .i64 0, .int .i64 0, .int .i64 0, .int .i64 0, .int .i64 0, .int .i64 0] 34)).cell? ⟨g0, 7, none⟩ = some (.int .i64 c4) ∧ (w4.alloc (.cells #[.int .i64 0, .int .i64 0, .slice none 0 0, .int .i64 0, .int .i64 0, .int .i64 0, .int .i64 0, .int .i64 0, .int .i64 0] 34)).cell? ⟨g0, 8, none⟩ = some (.int .i64 c5)) ∧ (w4.alloc (.cells #[.int .i64 0, .int .i64 0, .slice none 0 0, .int .i64 0, .int .i64 0, .int .i64 0, .int .i64 0, .int .i64 0, .int .i64 0] 34)).cell? ⟨g, off + k * 3 + 2, none⟩ = some (.string o.s) := ⟨⟨by rw [cell_same (hal.block g0 hlt0)]; exact hSd.1.1, by rw [cell_same (hal.block g0 hlt0)]; exact hSd.1.2.1, by rw [cell_same (hal.block g0 hlt0)]; exact hSd.1.2.2.1, by rw [cell_same (hal.block g0 hlt0)]; exact hSd.1.2.2.2.1, by rw [cell_same (hal.block g0 hlt0)]; exact hSd.1.2.2.2.2.1, by rw [cell_same (hal.block g0 hlt0)]; exact hSd.1.2.2.2.2.2.1, by rw [cell_same (hal.block g0 hlt0)]; exact hSd.1.2.2.2.2.2.2.1, by rw [cell_same (hal.block g0 hlt0)]; exact hSd.1.2.2.2.2.2.2.2.1, by rw [cell_same (hal.block g0 hlt0)]; exact hSd.1.2.2.2.2.2.2.2.2⟩, by rw [cell_same (hal.block g hltg)]; exact hSd.2⟩
      refine hK.out _ _ (fun _ => hSq) ?_
      clear hK K
      (try simp only [Act.put, List.setIfInBounds_toArray, List.set_cons_zero, List.set_cons_succ])
      have hX2a := atQ_new 34 w4 w4.heap.size #[.int .i64 0, .int .i64 0, .slice none 0 0, .int .i64 0, .int .i64 0, .int .i64 0, .int .i64 0, .int .i64 0, .int .i64 0] rfl
      have hg2 : w4.heap.size ≤ w4.heap.size := Nat.le_refl _
      obtain ⟨wp, hwp⟩ : ∃ wp, (w4.alloc (.cells #[.int .i64 0, .int .i64 0, .slice none 0 0, .int .i64 0, .int .i64 0, .int .i64 0, .int .i64 0, .int .i64 0, .int .i64 0] 34)) = wp := ⟨_, rfl⟩
      obtain ⟨g2, hgg2⟩ : ∃ g2, w4.heap.size = g2 := ⟨_, rfl⟩
      rw [hwp] at hal hSq hX2a ⊢
      rw [hgg2] at hX2a
      have hg2 : w4.heap.size ≤ g2 := by omega
      rw [show (Value.pointer (some ⟨w4.heap.size, 0, none⟩)) = Value.pointer (some ⟨g2, 0, none⟩) from by rw [hgg2]]
      clear hwp
      refine ordM_ready [9] (by kernel_rfl) (by simp) ?_
      refine AllReadyM.cons rfl (fun K hK => ?_) AllReadyM.nil
      go_simp
      go_at_call 39
      refine (HPUT.out _ hal).mono ?_
      rintro e wq ⟨vq, rfl, hOq, hbq⟩
      obtain ⟨aq, kq, rfl⟩ := hOq.formG
      (try go_wp2_with fail)
      have hbR : Below w4.heap.size w4 wq := hal.trans (hbq.mono hal.size)
      have hSr : (wq.cell? ⟨g0, 0, none⟩ = some (.int .i64 m) ∧ wq.cell? ⟨g0, 1, none⟩ = some (.int .i64 b) ∧ wq.cell? ⟨g0, 2, none⟩ = some (.slice (some ⟨g, off, none⟩) n cap) ∧ wq.cell? ⟨g0, 3, none⟩ = some (.int .i64 c0) ∧ wq.cell? ⟨g0, 4, none⟩ = some (.int .i64 c1) ∧ wq.cell? ⟨g0, 5, none⟩ = some (.int .i64 c2) ∧ wq.cell? ⟨g0, 6, none⟩ = some (.int .i64 c3) ∧ wq.cell? ⟨g0, 7, none⟩ = some (.int .i64 c4) ∧ wq.cell? ⟨g0, 8, none⟩ = some (.int .i64 c5)) ∧ wq.cell? ⟨g, off + k * 3 + 2, none⟩ = some (.string o.s) := ⟨⟨by rw [cell_same (hbR.block g0 hlt0)]; exact hSd.1.1, by rw [cell_same (hbR.block g0 hlt0)]; exact hSd.1.2.1, by rw [cell_same (hbR.block g0 hlt0)]; exact hSd.1.2.2.1, by rw [cell_same (hbR.block g0 hlt0)]; exact hSd.1.2.2.2.1, by rw [cell_same (hbR.block g0 hlt0)]; exact hSd.1.2.2.2.2.1, by rw [cell_same (hbR.block g0 hlt0)]; exact hSd.1.2.2.2.2.2.1, by rw [cell_same (hbR.block g0 hlt0)]; exact hSd.1.2.2.2.2.2.2.1, by rw [cell_same (hbR.block g0 hlt0)]; exact hSd.1.2.2.2.2.2.2.2.1, by rw [cell_same (hbR.block g0 hlt0)]; exact hSd.1.2.2.2.2.2.2.2.2⟩, by rw [cell_same (hbR.block g hltg)]; exact hSd.2⟩
      refine hK.out _ _ (fun _ => hSr) ?_
      clear hK K
      (try simp only [Act.put, List.setIfInBounds_toArray, List.set_cons_zero, List.set_cons_succ])
      refine ordM_take 10 ?vq4 rfl (by kernel_rfl) (by kernel_rfl) (by kernel_rfl) (by kernel_rfl) (fun _ _ _ h => h) (by rfl) ?hq4 (by assumption) ?rq4
      case hq4 => (intro W hSw; (try dsimp only at hSw); go_simp <;> with_reducible rfl)
      (try simp only [Act.put, List.setIfInBounds_toArray, List.set_cons_zero, List.set_cons_succ])
      refine ordM_take 11 ?vq5 rfl (by kernel_rfl) (by kernel_rfl) (by kernel_rfl) (by kernel_rfl) (fun _ _ _ h => h) (by rfl) ?hq5 (by assumption) ?rq5
      case hq5 => (intro W hSw; (try dsimp only at hSw); go_simp <;> with_reducible rfl)
      (try simp only [Act.put, List.setIfInBounds_toArray, List.set_cons_zero, List.set_cons_succ])
      refine ordM_take 12 ?vq6 rfl (by kernel_rfl) (by kernel_rfl) (by kernel_rfl) (by kernel_rfl) (fun _ _ _ h => h) (by rfl) ?hq6 (by assumption) ?rq6
      case hq6 => (intro W hSw; (try dsimp only at hSw); go_simp <;> with_reducible rfl)
      (try simp only [Act.put, List.setIfInBounds_toArray, List.set_cons_zero, List.set_cons_succ])
      have hX2 := hX2a.later hbq
      have hOr := hOq
      generalize wq = wr at hbR hSr hX2 hOr ⊢
      clear hal hSq
      obtain ⟨y0, y1, y2, y3, y4, y5, y6, y7, y8⟩ := hX2.frees9
      obtain ⟨z0, z1, z2, z3, z4, z5, z6, z7, z8⟩ := hX2.cells9
      have hpo := put9_only wr g2 (.int .i64 m) (.int .i64 b) (.slice aq lq.length kq) (.int .i64 c0) (.int .i64 c1) (.int .i64 c2) (.int .i64 c3) (.int .i64 c4) (.int .i64 c5)
      have hne0 : g0 ≠ g2 := by omega
      have hneg : g ≠ g2 := by omega
      have hbW : Below w4.heap.size w4 (((((((((wr.setCell ⟨g2, 0, none⟩ (.int .i64 m)).setCell ⟨g2, 1, none⟩ (.int .i64 b)).setCell ⟨g2, 2, none⟩ (.slice aq lq.length kq)).setCell ⟨g2, 3, none⟩ (.int .i64 c0)).setCell ⟨g2, 4, none⟩ (.int .i64 c1)).setCell ⟨g2, 5, none⟩ (.int .i64 c2)).setCell ⟨g2, 6, none⟩ (.int .i64 c3)).setCell ⟨g2, 7, none⟩ (.int .i64 c4)).setCell ⟨g2, 8, none⟩ (.int .i64 c5)) := hbR.trans (hpo.below hg2)
      have hSw2 : ((((((((((wr.setCell ⟨g2, 0, none⟩ (.int .i64 m)).setCell ⟨g2, 1, none⟩ (.int .i64 b)).setCell ⟨g2, 2, none⟩ (.slice aq lq.length kq)).setCell ⟨g2, 3, none⟩ (.int .i64 c0)).setCell ⟨g2, 4, none⟩ (.int .i64 c1)).setCell ⟨g2, 5, none⟩ (.int .i64 c2)).setCell ⟨g2, 6, none⟩ (.int .i64 c3)).setCell ⟨g2, 7, none⟩ (.int .i64 c4)).setCell ⟨g2, 8, none⟩ (.int .i64 c5)).cell? ⟨g0, 0, none⟩ = some (.int .i64 m) ∧ (((((((((wr.setCell ⟨g2, 0, none⟩ (.int .i64 m)).setCell ⟨g2, 1, none⟩ (.int .i64 b)).setCell ⟨g2, 2, none⟩ (.slice aq lq.length kq)).setCell ⟨g2, 3, none⟩ (.int .i64 c0)).setCell ⟨g2, 4, none⟩ (.int .i64 c1)).setCell ⟨g2, 5, none⟩ (.int .i64 c2)).setCell ⟨g2, 6, none⟩ (.int .i64 c3)).setCell ⟨g2, 7, none⟩ (.int .i64 c4)).setCell ⟨g2, 8, none⟩ (.int .i64 c5)).cell? ⟨g0, 1, none⟩ = some (.int .i64 b) ∧ (((((((((wr.setCell ⟨g2, 0, none⟩ (.int .i64 m)).setCell ⟨g2, 1, none⟩ (.int .i64 b)).setCell ⟨g2, 2, none⟩ (.slice aq lq.length kq)).setCell ⟨g2, 3, none⟩ (.int .i64 c0)).setCell ⟨g2, 4, none⟩ (.int .i64 c1)).setCell ⟨g2, 5, none⟩ (.int .i64 c2)).setCell ⟨g2, 6, none⟩ (.int .i64 c3)).setCell ⟨g2, 7, none⟩ (.int .i64 c4)).setCell ⟨g2, 8, none⟩ (.int .i64 c5)).cell? ⟨g0, 2, none⟩ = some (.slice (some ⟨g, off, none⟩) n cap) ∧ (((((((((wr.setCell ⟨g2, 0, none⟩ (.int .i64 m)).setCell ⟨g2, 1, none⟩ (.int .i64 b)).setCell ⟨g2, 2, none⟩ (.slice aq lq.length kq)).setCell ⟨g2, 3, none⟩ (.int .i64 c0)).setCell ⟨g2, 4, none⟩ (.int .i64 c1)).setCell ⟨g2, 5, none⟩ (.int .i64 c2)).setCell ⟨g2, 6, none⟩ (.int .i64 c3)).setCell ⟨g2, 7, none⟩ (.int .i64 c4)).setCell ⟨g2, 8, none⟩ (.int .i64 c5)).cell? ⟨g0, 3, none⟩ = some (.int .i64 c0) ∧ (((((((((wr.setCell ⟨g2, 0, none⟩ (.int .i64 m)).setCell ⟨g2, 1, none⟩ (.int .i64 b)).setCell ⟨g2, 2, none⟩ (.slice aq lq.length kq)).setCell ⟨g2, 3, none⟩ (.int .i64 c0)).setCell ⟨g2, 4, none⟩ (.int .i64 c1)).setCell ⟨g2, 5, none⟩ (.int .i64 c2)).setCell ⟨g2, 6, none⟩ (.int .i64 c3)).setCell ⟨g2, 7, none⟩ (.int .i64 c4)).setCell ⟨g2, 8, none⟩ (.int .i64 c5)).cell? ⟨g0, 4, none⟩ = some (.int .i64 c1) ∧ (((((((((wr.setCell ⟨g2, 0, none⟩ (.int .i64 m)).setCell ⟨g2, 1, none⟩ (.int .i64 b)).setCell ⟨g2, 2, none⟩ (.slice aq lq.length kq)).setCell ⟨g2, 3, none⟩ (.int .i64 c0)).setCell ⟨g2, 4, none⟩ (.int .i64 c1)).setCell ⟨g2, 5, none⟩ (.int .i64 c2)).setCell ⟨g2, 6, none⟩ (.int .i64 c3)).setCell ⟨g2, 7, none⟩ (.int .i64 c4)).setCell ⟨g2, 8, none⟩ (.int .i64 c5)).cell? ⟨g0, 5, none⟩ = some (.int .i64 c2) ∧ (((((((((wr.setCell ⟨g2, 0, none⟩ (.int .i64 m)).setCell ⟨g2, 1, none⟩ (.int .i64 b)).setCell ⟨g2, 2, none⟩ (.slice aq lq.length kq)).setCell ⟨g2, 3, none⟩ (.int .i64 c0)).setCell ⟨g2, 4, none⟩ (.int .i64 c1)).setCell ⟨g2, 5, none⟩ (.int .i64 c2)).setCell ⟨g2, 6, none⟩ (.int .i64 c3)).setCell ⟨g2, 7, none⟩ (.int .i64 c4)).setCell ⟨g2, 8, none⟩ (.int .i64 c5)).cell? ⟨g0, 6, none⟩ = some (.int .i64 c3) ∧ (((((((((wr.setCell ⟨g2, 0, none⟩ (.int .i64 m)).setCell ⟨g2, 1, none⟩ (.int .i64 b)).setCell ⟨g2, 2, none⟩ (.slice aq lq.length kq)).setCell ⟨g2, 3, none⟩ (.int .i64 c0)).setCell ⟨g2, 4, none⟩ (.int .i64 c1)).setCell ⟨g2, 5, none⟩ (.int .i64 c2)).setCell ⟨g2, 6, none⟩ (.int .i64 c3)).setCell ⟨g2, 7, none⟩ (.int .i64 c4)).setCell ⟨g2, 8, none⟩ (.int .i64 c5)).cell? ⟨g0, 7, none⟩ = some (.int .i64 c4) ∧ (((((((((wr.setCell ⟨g2, 0, none⟩ (.int .i64 m)).setCell ⟨g2, 1, none⟩ (.int .i64 b)).setCell ⟨g2, 2, none⟩ (.slice aq lq.length kq)).setCell ⟨g2, 3, none⟩ (.int .i64 c0)).setCell ⟨g2, 4, none⟩ (.int .i64 c1)).setCell ⟨g2, 5, none⟩ (.int .i64 c2)).setCell ⟨g2, 6, none⟩ (.int .i64 c3)).setCell ⟨g2, 7, none⟩ (.int .i64 c4)).setCell ⟨g2, 8, none⟩ (.int .i64 c5)).cell? ⟨g0, 8, none⟩ = some (.int .i64 c5)) ∧ (((((((((wr.setCell ⟨g2, 0, none⟩ (.int .i64 m)).setCell ⟨g2, 1, none⟩ (.int .i64 b)).setCell ⟨g2, 2, none⟩ (.slice aq lq.length kq)).setCell ⟨g2, 3, none⟩ (.int .i64 c0)).setCell ⟨g2, 4, none⟩ (.int .i64 c1)).setCell ⟨g2, 5, none⟩ (.int .i64 c2)).setCell ⟨g2, 6, none⟩ (.int .i64 c3)).setCell ⟨g2, 7, none⟩ (.int .i64 c4)).setCell ⟨g2, 8, none⟩ (.int .i64 c5)).cell? ⟨g, off + k * 3 + 2, none⟩ = some (.string o.s) := ⟨⟨by rw [cell_same (hbW.block g0 hlt0)]; exact hSd.1.1, by rw [cell_same (hbW.block g0 hlt0)]; exact hSd.1.2.1, by rw [cell_same (hbW.block g0 hlt0)]; exact hSd.1.2.2.1, by rw [cell_same (hbW.block g0 hlt0)]; exact hSd.1.2.2.2.1, by rw [cell_same (hbW.block g0 hlt0)]; exact hSd.1.2.2.2.2.1, by rw [cell_same (hbW.block g0 hlt0)]; exact hSd.1.2.2.2.2.2.1, by rw [cell_same (hbW.block g0 hlt0)]; exact hSd.1.2.2.2.2.2.2.1, by rw [cell_same (hbW.block g0 hlt0)]; exact hSd.1.2.2.2.2.2.2.2.1, by rw [cell_same (hbW.block g0 hlt0)]; exact hSd.1.2.2.2.2.2.2.2.2⟩, by rw [cell_same (hbW.block g hltg)]; exact hSd.2⟩
      refine ordM_ready [14] (by kernel_rfl) (by simp) ?_
      refine AllReadyM.cons rfl (fun K hK => ?_) AllReadyM.nil
      go_simp
      refine hK.out _ _ (fun _ => hSw2) ?_
      clear hK K
      (try simp only [Act.put, List.setIfInBounds_toArray, List.set_cons_zero, List.set_cons_succ])
      refine ordM_take 15 ?vq17 rfl (by kernel_rfl) (by kernel_rfl) (by kernel_rfl) (by kernel_rfl) (fun _ _ _ h => h) (by rfl) ?hq17 (by assumption) ?rq17
      case hq17 => (intro W hSw; (try dsimp only at hSw); go_simp <;> with_reducible rfl)
      (try simp only [Act.put, List.setIfInBounds_toArray, List.set_cons_zero, List.set_cons_succ])
      refine ordM_done (by kernel_rfl) ?_ _
      refine NoPanic.normal ?_
      have hX2' := atQ9_put hX2 (.int .i64 m) (.int .i64 b) (.slice aq lq.length kq) (.int .i64 c0) (.int .i64 c1) (.int .i64 c2) (.int .i64 c3) (.int .i64 c4) (.int .i64 c5)
      have hX1r := hX1d.later hbR
      have hne : g1 ≠ g2 := by have := hX1d.lt; omega
      have hX17 := hX1r.only hne hpo
      have hO7 := hOr.keep (W' := (((((((((wr.setCell ⟨g2, 0, none⟩ (.int .i64 m)).setCell ⟨g2, 1, none⟩ (.int .i64 b)).setCell ⟨g2, 2, none⟩ (.slice aq lq.length kq)).setCell ⟨g2, 3, none⟩ (.int .i64 c0)).setCell ⟨g2, 4, none⟩ (.int .i64 c1)).setCell ⟨g2, 5, none⟩ (.int .i64 c2)).setCell ⟨g2, 6, none⟩ (.int .i64 c3)).setCell ⟨g2, 7, none⟩ (.int .i64 c4)).setCell ⟨g2, 8, none⟩ (.int .i64 c5))) (by rw [hpo.size]; exact Nat.le_refl _) (fun k cs hk hc => hpo.block k (fun e' => by
        subst e'
        exact blkQ_ne (T := 84) (T' := 34) hc hX2 (by decide) rfl))
      have hb7 := hb3d.trans (hbW.mono hszd)
      have hsz7 : g0 ≤ g2 := by omega
      generalize (((((((((wr.setCell ⟨g2, 0, none⟩ (.int .i64 m)).setCell ⟨g2, 1, none⟩ (.int .i64 b)).setCell ⟨g2, 2, none⟩ (.slice aq lq.length kq)).setCell ⟨g2, 3, none⟩ (.int .i64 c0)).setCell ⟨g2, 4, none⟩ (.int .i64 c1)).setCell ⟨g2, 5, none⟩ (.int .i64 c2)).setCell ⟨g2, 6, none⟩ (.int .i64 c3)).setCell ⟨g2, 7, none⟩ (.int .i64 c4)).setCell ⟨g2, 8, none⟩ (.int .i64 c5)) = w7 at hX2' hX17 hO7 hb7 ⊢
      clear hX2 hX1r hbW hSw2 hpo hbR hSr hOr y0 y1 y2 y3 y4 y5 y6 y7 y8 z0 z1 z2 z3 z4 z5 z6 z7 z8
      have hX2 := hX2'
      clear hX2'
      clear hX0d hX1d hLd hb3d hSd hX0' hX1' hb3' hL3 HPUT
      obtain ⟨_, _, _, _, _, _, _, _, _⟩ := hX2.cells9
      obtain ⟨_, _, _, _, _, _, _, _, _⟩ := hX2.frees9
      cases y with
      | false =>
        go_upto_region 7 with fail
        obtain ⟨_, _, _, _, _, _, _, _, _⟩ := hX2.cells9
        obtain ⟨_, _, _, _, _, _, _, _, _⟩ := hX17.frees9
        obtain ⟨_, _, _, _, _, _, _, _, _⟩ := hX17.cells9
        have hZ := atQ9_put hX17 (.int .i64 m) (.int .i64 b) (.slice aq lq.length kq) (.int .i64 c0) (.int .i64 c1) (.int .i64 c2) (.int .i64 c3) (.int .i64 c4) (.int .i64 c5)
        have hbz := hb7.trans ((put9_only w7 g1 (.int .i64 m) (.int .i64 b) (.slice aq lq.length kq) (.int .i64 c0) (.int .i64 c1) (.int .i64 c2) (.int .i64 c3) (.int .i64 c4) (.int .i64 c5)).below hle1)
        have hLz := hO7.keep (W' := (((((((((w7.setCell ⟨g1, 0, none⟩ (.int .i64 m)).setCell ⟨g1, 1, none⟩ (.int .i64 b)).setCell ⟨g1, 2, none⟩ (.slice aq lq.length kq)).setCell ⟨g1, 3, none⟩ (.int .i64 c0)).setCell ⟨g1, 4, none⟩ (.int .i64 c1)).setCell ⟨g1, 5, none⟩ (.int .i64 c2)).setCell ⟨g1, 6, none⟩ (.int .i64 c3)).setCell ⟨g1, 7, none⟩ (.int .i64 c4)).setCell ⟨g1, 8, none⟩ (.int .i64 c5))) (by rw [(put9_only w7 g1 (.int .i64 m) (.int .i64 b) (.slice aq lq.length kq) (.int .i64 c0) (.int .i64 c1) (.int .i64 c2) (.int .i64 c3) (.int .i64 c4) (.int .i64 c5)).size]; exact Nat.le_refl _) (fun k cs hk hc => (put9_only w7 g1 (.int .i64 m) (.int .i64 b) (.slice aq lq.length kq) (.int .i64 c0) (.int .i64 c1) (.int .i64 c2) (.int .i64 c3) (.int .i64 c4) (.int .i64 c5)).block k (fun e' => by
          subst e'
          exact blkQ_ne (T := 84) (T' := 34) hc hX17 (by decide) rfl))
        obtain ⟨d0, d1, d2, d3, d4, d5, d6, d7, d8⟩ := hZ.cells9
        have HBZ := Lib.hid hbz
        have HLZ := Lib.hid hLz
        clear hX17 hX2 hb7 hO7 hZ hbz hLz
        repeat (first | go_skip | go_guarded | go_step | go_upon | go_back)
        refine bodyPost_ret (v := .tuple #[.agg #[.int .i64 m, .int .i64 b, .slice aq lq.length kq, .int .i64 c0, .int .i64 c1, .int .i64 c2, .int .i64 c3, .int .i64 c4, .int .i64 c5], .bool false]) (by simp [results, Try.results25, go_sem, d0, d1, d2, d3, d4, d5, d6, d7, d8]) rfl ⟨false, lq, .slice aq lq.length kq, rfl, HTW.out, HLZ.out, by rw [HG.out]; exact HBZ.out⟩
      | true =>
        have hwr : IntKind.i64.wrap (c3 + 1) = c3 + 1 := IntWalk.i64_in _ ⟨by omega, by omega⟩
        have hX2c := atQ9_set6 hX2 (.int .i64 (c3 + 1))
        have ho := (Only.refl g2 w7).setCell 6 (.int .i64 (c3 + 1))
        have hX1c := hX17.only hne ho
        have hbc := hb7.trans (ho.below hsz7)
        have hOc := hO7.keep (W' := w7.setCell ⟨g2, 6, none⟩ (.int .i64 (c3 + 1))) (by rw [ho.size]; exact Nat.le_refl _) (fun k cs hk hc => ho.block k (fun e' => by
          subst e'
          exact blkQ_ne (T := 84) (T' := 34) hc hX2 (by decide) rfl))
        go_upto_region 7 with fail
        generalize (w7.setCell ⟨g2, 6, none⟩ (.int .i64 (c3 + 1))) = w8 at *
        clear hX2 hX17 hO7 hb7 ho
        obtain ⟨_, _, _, _, _, _, _, _, _⟩ := hX2c.cells9
        obtain ⟨_, _, _, _, _, _, _, _, _⟩ := hX1c.frees9
        obtain ⟨_, _, _, _, _, _, _, _, _⟩ := hX1c.cells9
        have hZ := atQ9_put hX1c (.int .i64 m) (.int .i64 b) (.slice aq lq.length kq) (.int .i64 c0) (.int .i64 c1) (.int .i64 c2) (.int .i64 (c3 + 1)) (.int .i64 c4) (.int .i64 c5)
        have hbz := hbc.trans ((put9_only w8 g1 (.int .i64 m) (.int .i64 b) (.slice aq lq.length kq) (.int .i64 c0) (.int .i64 c1) (.int .i64 c2) (.int .i64 (c3 + 1)) (.int .i64 c4) (.int .i64 c5)).below hle1)
        have hLz := hOc.keep (W' := (((((((((w8.setCell ⟨g1, 0, none⟩ (.int .i64 m)).setCell ⟨g1, 1, none⟩ (.int .i64 b)).setCell ⟨g1, 2, none⟩ (.slice aq lq.length kq)).setCell ⟨g1, 3, none⟩ (.int .i64 c0)).setCell ⟨g1, 4, none⟩ (.int .i64 c1)).setCell ⟨g1, 5, none⟩ (.int .i64 c2)).setCell ⟨g1, 6, none⟩ (.int .i64 (c3 + 1))).setCell ⟨g1, 7, none⟩ (.int .i64 c4)).setCell ⟨g1, 8, none⟩ (.int .i64 c5))) (by rw [(put9_only w8 g1 (.int .i64 m) (.int .i64 b) (.slice aq lq.length kq) (.int .i64 c0) (.int .i64 c1) (.int .i64 c2) (.int .i64 (c3 + 1)) (.int .i64 c4) (.int .i64 c5)).size]; exact Nat.le_refl _) (fun k cs hk hc => (put9_only w8 g1 (.int .i64 m) (.int .i64 b) (.slice aq lq.length kq) (.int .i64 c0) (.int .i64 c1) (.int .i64 c2) (.int .i64 (c3 + 1)) (.int .i64 c4) (.int .i64 c5)).block k (fun e' => by
          subst e'
          exact blkQ_ne (T := 84) (T' := 34) hc hX1c (by decide) rfl))
        obtain ⟨d0, d1, d2, d3, d4, d5, d6, d7, d8⟩ := hZ.cells9
        have HBZ := Lib.hid hbz
        have HLZ := Lib.hid hLz
        clear hX1c hX2c hbc hOc hZ hbz hLz
        repeat (first | go_skip | go_guarded | go_step | go_upon | go_back)
        refine bodyPost_ret (v := .tuple #[.agg #[.int .i64 m, .int .i64 b, .slice aq lq.length kq, .int .i64 c0, .int .i64 c1, .int .i64 c2, .int .i64 (c3 + 1), .int .i64 c4, .int .i64 c5], .bool true]) (by simp [results, Try.results25, go_sem, d0, d1, d2, d3, d4, d5, d6, d7, d8]) rfl ⟨true, lq, .slice aq lq.length kq, rfl, HTW.out, HLZ.out, by rw [HG.out]; exact HBZ.out⟩
end Go.Proofs.Ytbmbomojnljccaa
