/- net: the law's do: Lose, Twin, Turn. -/
import Derived.Test.YtbmbomojnljccaaNeZ
import Derived.Test.YtbmbomojnljccaaOrdM
namespace Go.Proofs.Ytbmbomojnljccaa
open Go.RowKit Go.Maps
set_option linter.unusedVariables false
set_option linter.unusedSimpArgs false
set_option maxRecDepth 100000 in
set_option maxHeartbeats 12800000 in
theorem neDo2 {w : World} {base gn n : Nat} {x : NE} {vx : Value} {l : List OD} (hI : NIn w base gn n x) (he : NeEq x l) (hL : OwnE w 0 84 3 vx l.length (odV l)) (hn : n ≤ 65535) (hl : l.length ≤ 65535) (hc : ∀ i, 0 ≤ x.c i ∧ x.c i ≤ 1099511627776) (wy pt ix bt : Int) (mk : Nat) (hmk : mk < 4294967296) (d : ByteArray) (hwf : wf2 wy pt) (wds : d.size ≤ 9223372036854775807) :
    Calls Try.prog 9 #[.pointer (some ⟨gn, 0, none⟩), neRv (am 1 x.m 1024) (am 1 x.b 16777216) vx (x.c 0) (x.c 1) (x.c 2) (x.c 3) (x.c 4) (x.c 5), .agg #[.int .i64 2, .int .i64 wy, .int .i64 pt, .int .i64 ix, .int .i64 bt, .int .u32 (mk : Int), .string d]] w fun e w' => ∃ (x' : NE) (v' : Value) (l' : List OD), e = .returned (.tuple #[neRv (am 1 x.m 1024) (am 1 x.b 16777216) v' (x'.c 0) (x'.c 1) (x'.c 2) (x'.c 3) (x'.c 4) (x'.c 5), .bool true]) ∧ NeDone w w' base gn n x x' v' l l' := by
  obtain ⟨ax, cap, rfl⟩ := hL.formG
  have hcs := nm_cutB d 40
  have HCUT := Lib.hid (fun W => cut_any d 40 W wds (by omega))
  generalize cutB d 40 = s at hcs HCUT
  have HPu := Lib.hid (fun W (hW : OwnE W 0 84 3 (.slice ax l.length cap) l.length (odV l)) => refNeLose_any (am 1 x.m 1024) (am 1 x.b 16777216) (x.c 0) (x.c 1) (x.c 2) (x.c 3) (x.c 4) (x.c 5) wy pt ix hW hl (hc 1))
  have HPP := Lib.hid (fun W (hQ : NIn W base gn n x) => neLose_any hQ hwf ix (by omega) hc)
  have HSI := Lib.hid (fun (r r' : Option ByteArray) (x' : NE) (l' : List OD) (h : NeEnd x wy pt ix 1 r x') (hr : NeCut l wy pt ix r' l') => h.sim hr he)
  unfold neRv at HPu ⊢
  have HCC := Lib.hid hc
  have hX0 := ((atQ_new 34 w w.heap.size #[.int .i64 (am 1 x.m 1024), .int .i64 (am 1 x.b 16777216), .slice ax l.length cap, .int .i64 (x.c 0), .int .i64 (x.c 1), .int .i64 (x.c 2), .int .i64 (x.c 3), .int .i64 (x.c 4), .int .i64 (x.c 5)] rfl).later (W' := ((w.alloc (.cells #[.int .i64 (am 1 x.m 1024), .int .i64 (am 1 x.b 16777216), .slice ax l.length cap, .int .i64 (x.c 0), .int .i64 (x.c 1), .int .i64 (x.c 2), .int .i64 (x.c 3), .int .i64 (x.c 4), .int .i64 (x.c 5)] 34)).alloc (.cells #[.int .i64 2, .int .i64 wy, .int .i64 pt, .int .i64 ix, .int .i64 bt, .int .u32 (mk : Int), .string d] 40))) ((Below.refl _ _).alloc (Nat.le_refl _) _)).later (W' := (((w.alloc (.cells #[.int .i64 (am 1 x.m 1024), .int .i64 (am 1 x.b 16777216), .slice ax l.length cap, .int .i64 (x.c 0), .int .i64 (x.c 1), .int .i64 (x.c 2), .int .i64 (x.c 3), .int .i64 (x.c 4), .int .i64 (x.c 5)] 34)).alloc (.cells #[.int .i64 2, .int .i64 wy, .int .i64 pt, .int .i64 ix, .int .i64 bt, .int .u32 (mk : Int), .string d] 40)).alloc (.cells #[.int .i64 0, .int .i64 0, .slice none 0 0, .int .i64 0, .int .i64 0, .int .i64 0, .int .i64 0, .int .i64 0, .int .i64 0] 34))) ((Below.refl _ _).alloc (Nat.le_refl _) _)
  have hX1 := (atQ_new 40 (w.alloc (.cells #[.int .i64 (am 1 x.m 1024), .int .i64 (am 1 x.b 16777216), .slice ax l.length cap, .int .i64 (x.c 0), .int .i64 (x.c 1), .int .i64 (x.c 2), .int .i64 (x.c 3), .int .i64 (x.c 4), .int .i64 (x.c 5)] 34)) (w.heap.size + 1) #[.int .i64 2, .int .i64 wy, .int .i64 pt, .int .i64 ix, .int .i64 bt, .int .u32 (mk : Int), .string d] (by simp)).later (W' := (((w.alloc (.cells #[.int .i64 (am 1 x.m 1024), .int .i64 (am 1 x.b 16777216), .slice ax l.length cap, .int .i64 (x.c 0), .int .i64 (x.c 1), .int .i64 (x.c 2), .int .i64 (x.c 3), .int .i64 (x.c 4), .int .i64 (x.c 5)] 34)).alloc (.cells #[.int .i64 2, .int .i64 wy, .int .i64 pt, .int .i64 ix, .int .i64 bt, .int .u32 (mk : Int), .string d] 40)).alloc (.cells #[.int .i64 0, .int .i64 0, .slice none 0 0, .int .i64 0, .int .i64 0, .int .i64 0, .int .i64 0, .int .i64 0, .int .i64 0] 34))) ((Below.refl _ _).alloc (Nat.le_refl _) _)
  have hX2 := atQ_new 34 ((w.alloc (.cells #[.int .i64 (am 1 x.m 1024), .int .i64 (am 1 x.b 16777216), .slice ax l.length cap, .int .i64 (x.c 0), .int .i64 (x.c 1), .int .i64 (x.c 2), .int .i64 (x.c 3), .int .i64 (x.c 4), .int .i64 (x.c 5)] 34)).alloc (.cells #[.int .i64 2, .int .i64 wy, .int .i64 pt, .int .i64 ix, .int .i64 bt, .int .u32 (mk : Int), .string d] 40)) (w.heap.size + 1 + 1) #[.int .i64 0, .int .i64 0, .slice none 0 0, .int .i64 0, .int .i64 0, .int .i64 0, .int .i64 0, .int .i64 0, .int .i64 0] (by simp)
  have hb : Below w.heap.size w (((w.alloc (.cells #[.int .i64 (am 1 x.m 1024), .int .i64 (am 1 x.b 16777216), .slice ax l.length cap, .int .i64 (x.c 0), .int .i64 (x.c 1), .int .i64 (x.c 2), .int .i64 (x.c 3), .int .i64 (x.c 4), .int .i64 (x.c 5)] 34)).alloc (.cells #[.int .i64 2, .int .i64 wy, .int .i64 pt, .int .i64 ix, .int .i64 bt, .int .u32 (mk : Int), .string d] 40)).alloc (.cells #[.int .i64 0, .int .i64 0, .slice none 0 0, .int .i64 0, .int .i64 0, .int .i64 0, .int .i64 0, .int .i64 0, .int .i64 0] 34)) := (((Below.refl _ _).alloc (Nat.le_refl _) _).alloc (by simp) _).alloc (by simp; omega) _
  go_enter Try.func9, Try.ntmps9
  go_upto_region 1 with fail
  generalize (((w.alloc (.cells #[.int .i64 (am 1 x.m 1024), .int .i64 (am 1 x.b 16777216), .slice ax l.length cap, .int .i64 (x.c 0), .int .i64 (x.c 1), .int .i64 (x.c 2), .int .i64 (x.c 3), .int .i64 (x.c 4), .int .i64 (x.c 5)] 34)).alloc (.cells #[.int .i64 2, .int .i64 wy, .int .i64 pt, .int .i64 ix, .int .i64 bt, .int .u32 (mk : Int), .string d] 40)).alloc (.cells #[.int .i64 0, .int .i64 0, .slice none 0 0, .int .i64 0, .int .i64 0, .int .i64 0, .int .i64 0, .int .i64 0, .int .i64 0] 34)) = w2 at *
  have hI2 := hI.later hb
  have hL2 := hL.later hb
  have hK2 : NKeep gn x w w2 x := nKeep_below hb
  generalize hg2 : w.heap.size + 1 + 1 = g2 at *
  generalize hg1 : w.heap.size + 1 = g1 at *
  generalize hg0 : w.heap.size = g0 at *
  have hle2 : g0 ≤ g2 := by omega
  have hne12 : g1 ≠ g2 := by omega
  have HG := Lib.hid hg0
  clear hg0 hg1 hg2 hI hL hb hc wds he
  obtain ⟨_, _, _, _, _, _, _, _, _⟩ := hX0.cells9
  obtain ⟨_, _, _, _, _, _, _⟩ := hX1.cells7
  go_wp2_with fail
  refine (HCUT.out _).mono ?_
  rintro e w2' ⟨rfl, hq⟩
  subst hq
  go_wp2_with fail
  refine (HPu.out _ hL2).mono ?_
  rintro e w3 ⟨r, lq, v3, rfl, hct, hL3, hb3⟩
  have HCT := Lib.hid hct
  have HLEN : Hid (lq.length ≤ l.length + 1) := Lib.hid (Nat.le_succ_of_le hct.len)
  clear hct
  obtain ⟨a3, k3, rfl⟩ := hL3.formG
  generalize hq1 : (if r.isSome = true then x.c 1 + 1 else x.c 1) = q1 at *
  have HQ1 := Lib.hid hq1
  clear hq1
  have hX1_3 := hX1.later hb3
  have hX2_3 := hX2.later hb3
  have hI3 := hI2.later hb3
  have hK3 : NKeep gn x w w3 x := hK2.trans (nKeep_below hb3)
  have hsz3 := hb3.size
  have hal : Below w3.heap.size w3 (w3.alloc (.cells #[.int .i64 (am 1 x.m 1024), .int .i64 (am 1 x.b 16777216), .slice a3 lq.length k3, .int .i64 (x.c 0), .int .i64 (q1), .int .i64 (x.c 2), .int .i64 (x.c 3), .int .i64 (x.c 4), .int .i64 (x.c 5)] 34)) := (Below.refl _ _).alloc (Nat.le_refl _) _
  have hY := atQ_new 34 w3 w3.heap.size #[.int .i64 (am 1 x.m 1024), .int .i64 (am 1 x.b 16777216), .slice a3 lq.length k3, .int .i64 (x.c 0), .int .i64 (q1), .int .i64 (x.c 2), .int .i64 (x.c 3), .int .i64 (x.c 4), .int .i64 (x.c 5)] rfl
  have hX1_4 := hX1_3.later hal
  have hX2_4 := hX2_3.later hal
  have hI4 := hI3.later hal
  have hL4 := hL3.later hal
  have hK4 : NKeep gn x w (w3.alloc (.cells #[.int .i64 (am 1 x.m 1024), .int .i64 (am 1 x.b 16777216), .slice a3 lq.length k3, .int .i64 (x.c 0), .int .i64 (q1), .int .i64 (x.c 2), .int .i64 (x.c 3), .int .i64 (x.c 4), .int .i64 (x.c 5)] 34)) x := hK3.trans (nKeep_below hal)
  have hne23 : w3.heap.size ≠ g2 := by have := hX2_3.lt; omega
  clear hX0 hX1 hX2 hI2 hK2 hL2 hL3 hX1_3 hX2_3 hI3 hK3 hb3 HPu
  go_upto_region 12 with fail
  generalize (w3.alloc (.cells #[.int .i64 (am 1 x.m 1024), .int .i64 (am 1 x.b 16777216), .slice a3 lq.length k3, .int .i64 (x.c 0), .int .i64 (q1), .int .i64 (x.c 2), .int .i64 (x.c 3), .int .i64 (x.c 4), .int .i64 (x.c 5)] 34)) = w4 at *
  generalize w3.heap.size = g3 at *
  have hX1d := hX1_4.drew
  have hX2d := hX2_4.drew
  have hYd := hY.drew
  have hId := hI4.drew
  have hLd := hL4.later (Below.refl _ _).drew
  have hK4d : NKeep gn x w w4.drew x := ⟨hK4.size, hK4.block, hK4.foot, hK4.env.trans (sameE_below (Below.refl 0 w4).drew)⟩
  clear hX1_4 hX2_4 hY hI4 hL4 hK4
  have hSd := And.intro hYd.cells9 hX1d.cells7
  refine wp_region_noPanic ?_
  refine ordM_begin (fun W : World => (W.cell? ⟨g3, 0, none⟩ = some (.int .i64 (am 1 x.m 1024)) ∧ W.cell? ⟨g3, 1, none⟩ = some (.int .i64 (am 1 x.b 16777216)) ∧ W.cell? ⟨g3, 2, none⟩ = some (.slice a3 lq.length k3) ∧ W.cell? ⟨g3, 3, none⟩ = some (.int .i64 (x.c 0)) ∧ W.cell? ⟨g3, 4, none⟩ = some (.int .i64 (q1)) ∧ W.cell? ⟨g3, 5, none⟩ = some (.int .i64 (x.c 2)) ∧ W.cell? ⟨g3, 6, none⟩ = some (.int .i64 (x.c 3)) ∧ W.cell? ⟨g3, 7, none⟩ = some (.int .i64 (x.c 4)) ∧ W.cell? ⟨g3, 8, none⟩ = some (.int .i64 (x.c 5))) ∧ W.cell? ⟨g1, 0, none⟩ = some (.int .i64 2) ∧ W.cell? ⟨g1, 1, none⟩ = some (.int .i64 wy) ∧ W.cell? ⟨g1, 2, none⟩ = some (.int .i64 pt) ∧ W.cell? ⟨g1, 3, none⟩ = some (.int .i64 ix) ∧ W.cell? ⟨g1, 4, none⟩ = some (.int .i64 bt) ∧ W.cell? ⟨g1, 5, none⟩ = some (.int .u32 (mk : Int)) ∧ W.cell? ⟨g1, 6, none⟩ = some (.string d)) (fun i => false) (by kernel_rfl) hSd ?_
  generalize w4.drew = wd at *
  refine ordM_take 0 ?vq21 rfl (by kernel_rfl) (by kernel_rfl) (by kernel_rfl) (by kernel_rfl) (fun _ _ _ h => h) (by rfl) ?hq21 (by assumption) ?rq21
  case hq21 => (intro W hSw; (try dsimp only at hSw); go_simp <;> with_reducible rfl)
  (try simp only [Act.put, List.setIfInBounds_toArray, List.set_cons_zero, List.set_cons_succ])
  refine ordM_take 1 ?vq22 rfl (by kernel_rfl) (by kernel_rfl) (by kernel_rfl) (by kernel_rfl) (fun _ _ _ h => h) (by rfl) ?hq22 (by assumption) ?rq22
  case hq22 => (intro W hSw; (try dsimp only at hSw); go_simp <;> with_reducible rfl)
  (try simp only [Act.put, List.setIfInBounds_toArray, List.set_cons_zero, List.set_cons_succ])
  refine ordM_take 2 ?vq23 rfl (by kernel_rfl) (by kernel_rfl) (by kernel_rfl) (by kernel_rfl) (fun _ _ _ h => h) (by rfl) ?hq23 (by assumption) ?rq23
  case hq23 => (intro W hSw; (try dsimp only at hSw); go_simp <;> with_reducible rfl)
  (try simp only [Act.put, List.setIfInBounds_toArray, List.set_cons_zero, List.set_cons_succ])
  refine ordM_take 3 ?vq24 rfl (by kernel_rfl) (by kernel_rfl) (by kernel_rfl) (by kernel_rfl) (fun _ _ _ h => h) (by rfl) ?hq24 (by assumption) ?rq24
  case hq24 => (intro W hSw; (try dsimp only at hSw); go_simp <;> with_reducible rfl)
  (try simp only [Act.put, List.setIfInBounds_toArray, List.set_cons_zero, List.set_cons_succ])
  refine ordM_take 4 ?vq25 rfl (by kernel_rfl) (by kernel_rfl) (by kernel_rfl) (by kernel_rfl) (fun _ _ _ h => h) (by rfl) ?hq25 (by assumption) ?rq25
  case hq25 => (intro W hSw; (try dsimp only at hSw); go_simp <;> with_reducible rfl)
  (try simp only [Act.put, List.setIfInBounds_toArray, List.set_cons_zero, List.set_cons_succ])
  refine ordM_take 5 ?vq26 rfl (by kernel_rfl) (by kernel_rfl) (by kernel_rfl) (by kernel_rfl) (fun _ _ _ h => h) (by rfl) ?hq26 (by assumption) ?rq26
  case hq26 => (intro W hSw; (try dsimp only at hSw); go_simp <;> with_reducible rfl)
  (try simp only [Act.put, List.setIfInBounds_toArray, List.set_cons_zero, List.set_cons_succ])
  refine ordM_take 6 ?vq27 rfl (by kernel_rfl) (by kernel_rfl) (by kernel_rfl) (by kernel_rfl) (fun _ _ _ h => h) (by rfl) ?hq27 (by assumption) ?rq27
  case hq27 => (intro W hSw; (try dsimp only at hSw); go_simp <;> with_reducible rfl)
  (try simp only [Act.put, List.setIfInBounds_toArray, List.set_cons_zero, List.set_cons_succ])
  refine ordM_take 7 ?vq28 rfl (by kernel_rfl) (by kernel_rfl) (by kernel_rfl) (by kernel_rfl) (fun _ _ _ h => h) (by rfl) ?hq28 (by assumption) ?rq28
  case hq28 => (intro W hSw; (try dsimp only at hSw); go_simp <;> with_reducible rfl)
  (try simp only [Act.put, List.setIfInBounds_toArray, List.set_cons_zero, List.set_cons_succ])
  refine ordM_take 9 ?vq29 rfl (by kernel_rfl) (by kernel_rfl) (by kernel_rfl) (by kernel_rfl) (fun _ _ _ h => h) (by rfl) ?hq29 (by assumption) ?rq29
  case hq29 => (intro W hSw; (try dsimp only at hSw); go_simp <;> with_reducible rfl)
  (try simp only [Act.put, List.setIfInBounds_toArray, List.set_cons_zero, List.set_cons_succ])
  refine ordM_ready [8] (by kernel_rfl) (by simp) ?_
  refine AllReadyM.cons rfl (fun K hK => ?_) AllReadyM.nil
  go_simp
  go_at_call 16
  refine (HPP.out _ hId).mono ?_
  rintro e w5 ⟨r', x', rfl, hN, hI5, hK5⟩
  obtain ⟨hr, hE5, hlim, hcc⟩ := HSI.out _ _ _ _ hN HCT.out
  subst hr
  have HE5 := Lib.hid hE5
  clear hE5 hN
  have hY5 := hYd.nkeep hId hK5 (by decide) (by decide)
  have hX1_5 := hX1d.nkeep hId hK5 (by decide) (by decide)
  have hX2_5 := hX2d.nkeep hId hK5 (by decide) (by decide)
  have hL5 := hLd.nkeep hId hK5 (by decide) (by decide)
  have hS5 := And.intro hY5.cells9 hX1_5.cells7
  (try go_wp2_with fail)
  refine hK.out _ _ (fun _ => hS5) ?_
  clear hK K
  (try simp only [Act.put, List.setIfInBounds_toArray, List.set_cons_zero, List.set_cons_succ])
  refine ordM_take 10 ?vq30 rfl (by kernel_rfl) (by kernel_rfl) (by kernel_rfl) (by kernel_rfl) (fun _ _ _ h => h) (by rfl) ?hq30 (by assumption) ?rq30
  case hq30 => (intro W hSw; (try dsimp only at hSw); go_simp <;> with_reducible rfl)
  (try simp only [Act.put, List.setIfInBounds_toArray, List.set_cons_zero, List.set_cons_succ])
  (try simp only [beq_self_eq_true])
  have ho := put9_only w5 g2 (.int .i64 (am 1 x.m 1024)) (.int .i64 (am 1 x.b 16777216)) (.slice a3 lq.length k3) (.int .i64 (x.c 0)) (.int .i64 (q1)) (.int .i64 (x.c 2)) (.int .i64 (x.c 3)) (.int .i64 (x.c 4)) (.int .i64 (x.c 5))
  have hZ := atQ9_put hX2_5 (.int .i64 (am 1 x.m 1024)) (.int .i64 (am 1 x.b 16777216)) (.slice a3 lq.length k3) (.int .i64 (x.c 0)) (.int .i64 (q1)) (.int .i64 (x.c 2)) (.int .i64 (x.c 3)) (.int .i64 (x.c 4)) (.int .i64 (x.c 5))
  have HI8 := Lib.hid (hI5.only hX2_5 ho (by decide) (by decide))
  have HK8 := Lib.hid ((hK4d.trans hK5).onlyNew (by rw [HG.out]; exact hle2) ho)
  have HL8 := Lib.hid (hL5.keep (W' := (((((((((w5.setCell ⟨g2, 0, none⟩ (.int .i64 (am 1 x.m 1024))).setCell ⟨g2, 1, none⟩ (.int .i64 (am 1 x.b 16777216))).setCell ⟨g2, 2, none⟩ (.slice a3 lq.length k3)).setCell ⟨g2, 3, none⟩ (.int .i64 (x.c 0))).setCell ⟨g2, 4, none⟩ (.int .i64 (q1))).setCell ⟨g2, 5, none⟩ (.int .i64 (x.c 2))).setCell ⟨g2, 6, none⟩ (.int .i64 (x.c 3))).setCell ⟨g2, 7, none⟩ (.int .i64 (x.c 4))).setCell ⟨g2, 8, none⟩ (.int .i64 (x.c 5)))) (by rw [ho.size]; exact Nat.le_refl _) (fun k cs hk hc => ho.block k (fun e' => by
    subst e'
    exact blkQ_ne (T := 84) (T' := 34) hc hX2_5 (by decide) rfl)))
  have hY8 := hY5.only hne23 ho
  have hX18 := hX1_5.only hne12 ho
  have hS8 := And.intro hY8.cells9 hX18.cells7
  obtain ⟨d0, d1, d2, d3, d4, d5, d6, d7, d8⟩ := hZ.cells9
  obtain ⟨_, _, _, _, _, _, _, _, _⟩ := hX2_5.cells9
  obtain ⟨_, _, _, _, _, _, _, _, _⟩ := hX2_5.frees9
  refine ordM_ready [11] (by kernel_rfl) (by simp) ?_
  refine AllReadyM.cons rfl (fun K hK => ?_) AllReadyM.nil
  go_simp
  refine hK.out _ _ (fun _ => hS8) ?_
  clear hK K
  (try simp only [Act.put, List.setIfInBounds_toArray, List.set_cons_zero, List.set_cons_succ])
  refine ordM_take 12 ?vq31 rfl (by kernel_rfl) (by kernel_rfl) (by kernel_rfl) (by kernel_rfl) (fun _ _ _ h => h) (by rfl) ?hq31 (by assumption) ?rq31
  case hq31 => (intro W hSw; (try dsimp only at hSw); go_simp <;> with_reducible rfl)
  (try simp only [Act.put, List.setIfInBounds_toArray, List.set_cons_zero, List.set_cons_succ])
  refine ordM_done (by kernel_rfl) ?_ _
  refine NoPanic.normal ?_
  clear ho hZ hY8 hX18 hS8 hS5 hY5 hX1_5 hX2_5 hL5 hSd hX1d hX2d hYd hId hLd
  repeat (first | go_skip | go_guarded | go_step | go_upon | go_back)
  have hx0 : x'.c 0 = x.c 0 := by rw [hcc]; cases r' <;> simp [bump]
  have hx1 : x'.c 1 = q1 := by rw [← HQ1.out, hcc]; cases r' <;> simp [bump]
  have hx2 : x'.c 2 = x.c 2 := by rw [hcc]; cases r' <;> simp [bump]
  have hx3 : x'.c 3 = x.c 3 := by rw [hcc]; cases r' <;> simp [bump]
  have hx4 : x'.c 4 = x.c 4 := by rw [hcc]; cases r' <;> simp [bump]
  have hx5 : x'.c 5 = x.c 5 := by rw [hcc]; cases r' <;> simp [bump]
  have hct' : ∀ i, x.c i ≤ x'.c i ∧ x'.c i ≤ x.c i + 1 := fun i => by
    rw [hcc, bump_if]
    split <;> omega
  refine bodyPost_ret (v := .tuple #[.agg #[.int .i64 (am 1 x.m 1024), .int .i64 (am 1 x.b 16777216), .slice a3 lq.length k3, .int .i64 (x.c 0), .int .i64 (q1), .int .i64 (x.c 2), .int .i64 (x.c 3), .int .i64 (x.c 4), .int .i64 (x.c 5)], .bool true]) (by simp [results, Try.results9, go_sem, d0, d1, d2, d3, d4, d5, d6, d7, d8]) rfl ⟨x', .slice a3 lq.length k3, lq, by rw [hx0, hx1, hx2, hx3, hx4, hx5], ⟨HI8.out, HE5.out, HL8.out, HK8.out, hlim, HLEN.out, hct'⟩⟩
set_option maxRecDepth 100000 in
set_option maxHeartbeats 12800000 in
theorem neDo3 {w : World} {base gn n : Nat} {x : NE} {vx : Value} {l : List OD} (hI : NIn w base gn n x) (he : NeEq x l) (hL : OwnE w 0 84 3 vx l.length (odV l)) (hn : n ≤ 65535) (hl : l.length ≤ 65535) (hc : ∀ i, 0 ≤ x.c i ∧ x.c i ≤ 1099511627776) (wy pt ix bt : Int) (mk : Nat) (hmk : mk < 4294967296) (d : ByteArray) (hwf : wf2 wy pt) (wds : d.size ≤ 9223372036854775807) :
    Calls Try.prog 9 #[.pointer (some ⟨gn, 0, none⟩), neRv (am 1 x.m 1024) (am 1 x.b 16777216) vx (x.c 0) (x.c 1) (x.c 2) (x.c 3) (x.c 4) (x.c 5), .agg #[.int .i64 3, .int .i64 wy, .int .i64 pt, .int .i64 ix, .int .i64 bt, .int .u32 (mk : Int), .string d]] w fun e w' => ∃ (x' : NE) (v' : Value) (l' : List OD), e = .returned (.tuple #[neRv (am 1 x.m 1024) (am 1 x.b 16777216) v' (x'.c 0) (x'.c 1) (x'.c 2) (x'.c 3) (x'.c 4) (x'.c 5), .bool true]) ∧ NeDone w w' base gn n x x' v' l l' := by
  obtain ⟨ax, cap, rfl⟩ := hL.formG
  have hcs := nm_cutB d 40
  have HCUT := Lib.hid (fun W => cut_any d 40 W wds (by omega))
  generalize cutB d 40 = s at hcs HCUT
  have HPu := Lib.hid (fun W (hW : OwnE W 0 84 3 (.slice ax l.length cap) l.length (odV l)) => refNeTwin_any (am 1 x.m 1024) (am 1 x.b 16777216) (x.c 0) (x.c 1) (x.c 2) (x.c 3) (x.c 4) (x.c 5) wy pt ix hW hl (fun o ho => (he.tx o ho).2) (hc 3))
  have HPP := Lib.hid (fun W (hQ : NIn W base gn n x) => neTwin_any hQ hwf ix (by omega) hc)
  have HSI := Lib.hid (fun (r r' : Bool) (x' : NE) (l' : List OD) (h : NeTwin x wy pt ix r x') (hr : NeTwinR l (am 1 x.m 1024) (am 1 x.b 16777216) wy pt ix r' l') => h.sim hr he hI.pl)
  unfold neRv at HPu ⊢
  have HCC := Lib.hid hc
  have hX0 := ((atQ_new 34 w w.heap.size #[.int .i64 (am 1 x.m 1024), .int .i64 (am 1 x.b 16777216), .slice ax l.length cap, .int .i64 (x.c 0), .int .i64 (x.c 1), .int .i64 (x.c 2), .int .i64 (x.c 3), .int .i64 (x.c 4), .int .i64 (x.c 5)] rfl).later (W' := ((w.alloc (.cells #[.int .i64 (am 1 x.m 1024), .int .i64 (am 1 x.b 16777216), .slice ax l.length cap, .int .i64 (x.c 0), .int .i64 (x.c 1), .int .i64 (x.c 2), .int .i64 (x.c 3), .int .i64 (x.c 4), .int .i64 (x.c 5)] 34)).alloc (.cells #[.int .i64 3, .int .i64 wy, .int .i64 pt, .int .i64 ix, .int .i64 bt, .int .u32 (mk : Int), .string d] 40))) ((Below.refl _ _).alloc (Nat.le_refl _) _)).later (W' := (((w.alloc (.cells #[.int .i64 (am 1 x.m 1024), .int .i64 (am 1 x.b 16777216), .slice ax l.length cap, .int .i64 (x.c 0), .int .i64 (x.c 1), .int .i64 (x.c 2), .int .i64 (x.c 3), .int .i64 (x.c 4), .int .i64 (x.c 5)] 34)).alloc (.cells #[.int .i64 3, .int .i64 wy, .int .i64 pt, .int .i64 ix, .int .i64 bt, .int .u32 (mk : Int), .string d] 40)).alloc (.cells #[.int .i64 0, .int .i64 0, .slice none 0 0, .int .i64 0, .int .i64 0, .int .i64 0, .int .i64 0, .int .i64 0, .int .i64 0] 34))) ((Below.refl _ _).alloc (Nat.le_refl _) _)
  have hX1 := (atQ_new 40 (w.alloc (.cells #[.int .i64 (am 1 x.m 1024), .int .i64 (am 1 x.b 16777216), .slice ax l.length cap, .int .i64 (x.c 0), .int .i64 (x.c 1), .int .i64 (x.c 2), .int .i64 (x.c 3), .int .i64 (x.c 4), .int .i64 (x.c 5)] 34)) (w.heap.size + 1) #[.int .i64 3, .int .i64 wy, .int .i64 pt, .int .i64 ix, .int .i64 bt, .int .u32 (mk : Int), .string d] (by simp)).later (W' := (((w.alloc (.cells #[.int .i64 (am 1 x.m 1024), .int .i64 (am 1 x.b 16777216), .slice ax l.length cap, .int .i64 (x.c 0), .int .i64 (x.c 1), .int .i64 (x.c 2), .int .i64 (x.c 3), .int .i64 (x.c 4), .int .i64 (x.c 5)] 34)).alloc (.cells #[.int .i64 3, .int .i64 wy, .int .i64 pt, .int .i64 ix, .int .i64 bt, .int .u32 (mk : Int), .string d] 40)).alloc (.cells #[.int .i64 0, .int .i64 0, .slice none 0 0, .int .i64 0, .int .i64 0, .int .i64 0, .int .i64 0, .int .i64 0, .int .i64 0] 34))) ((Below.refl _ _).alloc (Nat.le_refl _) _)
  have hX2 := atQ_new 34 ((w.alloc (.cells #[.int .i64 (am 1 x.m 1024), .int .i64 (am 1 x.b 16777216), .slice ax l.length cap, .int .i64 (x.c 0), .int .i64 (x.c 1), .int .i64 (x.c 2), .int .i64 (x.c 3), .int .i64 (x.c 4), .int .i64 (x.c 5)] 34)).alloc (.cells #[.int .i64 3, .int .i64 wy, .int .i64 pt, .int .i64 ix, .int .i64 bt, .int .u32 (mk : Int), .string d] 40)) (w.heap.size + 1 + 1) #[.int .i64 0, .int .i64 0, .slice none 0 0, .int .i64 0, .int .i64 0, .int .i64 0, .int .i64 0, .int .i64 0, .int .i64 0] (by simp)
  have hb : Below w.heap.size w (((w.alloc (.cells #[.int .i64 (am 1 x.m 1024), .int .i64 (am 1 x.b 16777216), .slice ax l.length cap, .int .i64 (x.c 0), .int .i64 (x.c 1), .int .i64 (x.c 2), .int .i64 (x.c 3), .int .i64 (x.c 4), .int .i64 (x.c 5)] 34)).alloc (.cells #[.int .i64 3, .int .i64 wy, .int .i64 pt, .int .i64 ix, .int .i64 bt, .int .u32 (mk : Int), .string d] 40)).alloc (.cells #[.int .i64 0, .int .i64 0, .slice none 0 0, .int .i64 0, .int .i64 0, .int .i64 0, .int .i64 0, .int .i64 0, .int .i64 0] 34)) := (((Below.refl _ _).alloc (Nat.le_refl _) _).alloc (by simp) _).alloc (by simp; omega) _
  go_enter Try.func9, Try.ntmps9
  go_upto_region 1 with fail
  generalize (((w.alloc (.cells #[.int .i64 (am 1 x.m 1024), .int .i64 (am 1 x.b 16777216), .slice ax l.length cap, .int .i64 (x.c 0), .int .i64 (x.c 1), .int .i64 (x.c 2), .int .i64 (x.c 3), .int .i64 (x.c 4), .int .i64 (x.c 5)] 34)).alloc (.cells #[.int .i64 3, .int .i64 wy, .int .i64 pt, .int .i64 ix, .int .i64 bt, .int .u32 (mk : Int), .string d] 40)).alloc (.cells #[.int .i64 0, .int .i64 0, .slice none 0 0, .int .i64 0, .int .i64 0, .int .i64 0, .int .i64 0, .int .i64 0, .int .i64 0] 34)) = w2 at *
  have hI2 := hI.later hb
  have hL2 := hL.later hb
  have hK2 : NKeep gn x w w2 x := nKeep_below hb
  generalize hg2 : w.heap.size + 1 + 1 = g2 at *
  generalize hg1 : w.heap.size + 1 = g1 at *
  generalize hg0 : w.heap.size = g0 at *
  have hle2 : g0 ≤ g2 := by omega
  have hne12 : g1 ≠ g2 := by omega
  have HG := Lib.hid hg0
  clear hg0 hg1 hg2 hI hL hb hc wds he
  obtain ⟨_, _, _, _, _, _, _, _, _⟩ := hX0.cells9
  obtain ⟨_, _, _, _, _, _, _⟩ := hX1.cells7
  go_wp2_with fail
  refine (HCUT.out _).mono ?_
  rintro e w2' ⟨rfl, hq⟩
  subst hq
  go_wp2_with fail
  refine (HPu.out _ hL2).mono ?_
  rintro e w3 ⟨r, lq, v3, rfl, hct, hL3, hb3⟩
  have HCT := Lib.hid hct
  have HLEN : Hid (lq.length ≤ l.length + 1) := Lib.hid (hct.len)
  clear hct
  obtain ⟨a3, k3, rfl⟩ := hL3.formG
  generalize hq3 : (if r = true then x.c 3 + 1 else x.c 3) = q3 at *
  have HQ3 := Lib.hid hq3
  clear hq3
  have hX1_3 := hX1.later hb3
  have hX2_3 := hX2.later hb3
  have hI3 := hI2.later hb3
  have hK3 : NKeep gn x w w3 x := hK2.trans (nKeep_below hb3)
  have hsz3 := hb3.size
  have hal : Below w3.heap.size w3 (w3.alloc (.cells #[.int .i64 (am 1 x.m 1024), .int .i64 (am 1 x.b 16777216), .slice a3 lq.length k3, .int .i64 (x.c 0), .int .i64 (x.c 1), .int .i64 (x.c 2), .int .i64 (q3), .int .i64 (x.c 4), .int .i64 (x.c 5)] 34)) := (Below.refl _ _).alloc (Nat.le_refl _) _
  have hY := atQ_new 34 w3 w3.heap.size #[.int .i64 (am 1 x.m 1024), .int .i64 (am 1 x.b 16777216), .slice a3 lq.length k3, .int .i64 (x.c 0), .int .i64 (x.c 1), .int .i64 (x.c 2), .int .i64 (q3), .int .i64 (x.c 4), .int .i64 (x.c 5)] rfl
  have hX1_4 := hX1_3.later hal
  have hX2_4 := hX2_3.later hal
  have hI4 := hI3.later hal
  have hL4 := hL3.later hal
  have hK4 : NKeep gn x w (w3.alloc (.cells #[.int .i64 (am 1 x.m 1024), .int .i64 (am 1 x.b 16777216), .slice a3 lq.length k3, .int .i64 (x.c 0), .int .i64 (x.c 1), .int .i64 (x.c 2), .int .i64 (q3), .int .i64 (x.c 4), .int .i64 (x.c 5)] 34)) x := hK3.trans (nKeep_below hal)
  have hne23 : w3.heap.size ≠ g2 := by have := hX2_3.lt; omega
  clear hX0 hX1 hX2 hI2 hK2 hL2 hL3 hX1_3 hX2_3 hI3 hK3 hb3 HPu
  go_upto_region 15 with fail
  generalize (w3.alloc (.cells #[.int .i64 (am 1 x.m 1024), .int .i64 (am 1 x.b 16777216), .slice a3 lq.length k3, .int .i64 (x.c 0), .int .i64 (x.c 1), .int .i64 (x.c 2), .int .i64 (q3), .int .i64 (x.c 4), .int .i64 (x.c 5)] 34)) = w4 at *
  generalize w3.heap.size = g3 at *
  have hX1d := hX1_4.drew
  have hX2d := hX2_4.drew
  have hYd := hY.drew
  have hId := hI4.drew
  have hLd := hL4.later (Below.refl _ _).drew
  have hK4d : NKeep gn x w w4.drew x := ⟨hK4.size, hK4.block, hK4.foot, hK4.env.trans (sameE_below (Below.refl 0 w4).drew)⟩
  clear hX1_4 hX2_4 hY hI4 hL4 hK4
  have hSd := And.intro hYd.cells9 hX1d.cells7
  refine wp_region_noPanic ?_
  refine ordM_begin (fun W : World => (W.cell? ⟨g3, 0, none⟩ = some (.int .i64 (am 1 x.m 1024)) ∧ W.cell? ⟨g3, 1, none⟩ = some (.int .i64 (am 1 x.b 16777216)) ∧ W.cell? ⟨g3, 2, none⟩ = some (.slice a3 lq.length k3) ∧ W.cell? ⟨g3, 3, none⟩ = some (.int .i64 (x.c 0)) ∧ W.cell? ⟨g3, 4, none⟩ = some (.int .i64 (x.c 1)) ∧ W.cell? ⟨g3, 5, none⟩ = some (.int .i64 (x.c 2)) ∧ W.cell? ⟨g3, 6, none⟩ = some (.int .i64 (q3)) ∧ W.cell? ⟨g3, 7, none⟩ = some (.int .i64 (x.c 4)) ∧ W.cell? ⟨g3, 8, none⟩ = some (.int .i64 (x.c 5))) ∧ W.cell? ⟨g1, 0, none⟩ = some (.int .i64 3) ∧ W.cell? ⟨g1, 1, none⟩ = some (.int .i64 wy) ∧ W.cell? ⟨g1, 2, none⟩ = some (.int .i64 pt) ∧ W.cell? ⟨g1, 3, none⟩ = some (.int .i64 ix) ∧ W.cell? ⟨g1, 4, none⟩ = some (.int .i64 bt) ∧ W.cell? ⟨g1, 5, none⟩ = some (.int .u32 (mk : Int)) ∧ W.cell? ⟨g1, 6, none⟩ = some (.string d)) (fun i => false) (by kernel_rfl) hSd ?_
  generalize w4.drew = wd at *
  refine ordM_take 0 ?vq32 rfl (by kernel_rfl) (by kernel_rfl) (by kernel_rfl) (by kernel_rfl) (fun _ _ _ h => h) (by rfl) ?hq32 (by assumption) ?rq32
  case hq32 => (intro W hSw; (try dsimp only at hSw); go_simp <;> with_reducible rfl)
  (try simp only [Act.put, List.setIfInBounds_toArray, List.set_cons_zero, List.set_cons_succ])
  refine ordM_take 1 ?vq33 rfl (by kernel_rfl) (by kernel_rfl) (by kernel_rfl) (by kernel_rfl) (fun _ _ _ h => h) (by rfl) ?hq33 (by assumption) ?rq33
  case hq33 => (intro W hSw; (try dsimp only at hSw); go_simp <;> with_reducible rfl)
  (try simp only [Act.put, List.setIfInBounds_toArray, List.set_cons_zero, List.set_cons_succ])
  refine ordM_take 2 ?vq34 rfl (by kernel_rfl) (by kernel_rfl) (by kernel_rfl) (by kernel_rfl) (fun _ _ _ h => h) (by rfl) ?hq34 (by assumption) ?rq34
  case hq34 => (intro W hSw; (try dsimp only at hSw); go_simp <;> with_reducible rfl)
  (try simp only [Act.put, List.setIfInBounds_toArray, List.set_cons_zero, List.set_cons_succ])
  refine ordM_take 3 ?vq35 rfl (by kernel_rfl) (by kernel_rfl) (by kernel_rfl) (by kernel_rfl) (fun _ _ _ h => h) (by rfl) ?hq35 (by assumption) ?rq35
  case hq35 => (intro W hSw; (try dsimp only at hSw); go_simp <;> with_reducible rfl)
  (try simp only [Act.put, List.setIfInBounds_toArray, List.set_cons_zero, List.set_cons_succ])
  refine ordM_take 4 ?vq36 rfl (by kernel_rfl) (by kernel_rfl) (by kernel_rfl) (by kernel_rfl) (fun _ _ _ h => h) (by rfl) ?hq36 (by assumption) ?rq36
  case hq36 => (intro W hSw; (try dsimp only at hSw); go_simp <;> with_reducible rfl)
  (try simp only [Act.put, List.setIfInBounds_toArray, List.set_cons_zero, List.set_cons_succ])
  refine ordM_take 5 ?vq37 rfl (by kernel_rfl) (by kernel_rfl) (by kernel_rfl) (by kernel_rfl) (fun _ _ _ h => h) (by rfl) ?hq37 (by assumption) ?rq37
  case hq37 => (intro W hSw; (try dsimp only at hSw); go_simp <;> with_reducible rfl)
  (try simp only [Act.put, List.setIfInBounds_toArray, List.set_cons_zero, List.set_cons_succ])
  refine ordM_take 6 ?vq38 rfl (by kernel_rfl) (by kernel_rfl) (by kernel_rfl) (by kernel_rfl) (fun _ _ _ h => h) (by rfl) ?hq38 (by assumption) ?rq38
  case hq38 => (intro W hSw; (try dsimp only at hSw); go_simp <;> with_reducible rfl)
  (try simp only [Act.put, List.setIfInBounds_toArray, List.set_cons_zero, List.set_cons_succ])
  refine ordM_take 7 ?vq39 rfl (by kernel_rfl) (by kernel_rfl) (by kernel_rfl) (by kernel_rfl) (fun _ _ _ h => h) (by rfl) ?hq39 (by assumption) ?rq39
  case hq39 => (intro W hSw; (try dsimp only at hSw); go_simp <;> with_reducible rfl)
  (try simp only [Act.put, List.setIfInBounds_toArray, List.set_cons_zero, List.set_cons_succ])
  refine ordM_take 9 ?vq40 rfl (by kernel_rfl) (by kernel_rfl) (by kernel_rfl) (by kernel_rfl) (fun _ _ _ h => h) (by rfl) ?hq40 (by assumption) ?rq40
  case hq40 => (intro W hSw; (try dsimp only at hSw); go_simp <;> with_reducible rfl)
  (try simp only [Act.put, List.setIfInBounds_toArray, List.set_cons_zero, List.set_cons_succ])
  refine ordM_ready [8] (by kernel_rfl) (by simp) ?_
  refine AllReadyM.cons rfl (fun K hK => ?_) AllReadyM.nil
  go_simp
  go_at_call 17
  refine (HPP.out _ hId).mono ?_
  rintro e w5 ⟨r', x', rfl, hN, hI5, hK5⟩
  obtain ⟨hr, hE5, hlim, hcc⟩ := HSI.out _ _ _ _ hN HCT.out
  subst hr
  have HE5 := Lib.hid hE5
  clear hE5 hN
  have hY5 := hYd.nkeep hId hK5 (by decide) (by decide)
  have hX1_5 := hX1d.nkeep hId hK5 (by decide) (by decide)
  have hX2_5 := hX2d.nkeep hId hK5 (by decide) (by decide)
  have hL5 := hLd.nkeep hId hK5 (by decide) (by decide)
  have hS5 := And.intro hY5.cells9 hX1_5.cells7
  (try go_wp2_with fail)
  refine hK.out _ _ (fun _ => hS5) ?_
  clear hK K
  (try simp only [Act.put, List.setIfInBounds_toArray, List.set_cons_zero, List.set_cons_succ])
  refine ordM_take 10 ?vq41 rfl (by kernel_rfl) (by kernel_rfl) (by kernel_rfl) (by kernel_rfl) (fun _ _ _ h => h) (by rfl) ?hq41 (by assumption) ?rq41
  case hq41 => (intro W hSw; (try dsimp only at hSw); go_simp <;> with_reducible rfl)
  (try simp only [Act.put, List.setIfInBounds_toArray, List.set_cons_zero, List.set_cons_succ])
  (try simp only [beq_self_eq_true])
  have ho := put9_only w5 g2 (.int .i64 (am 1 x.m 1024)) (.int .i64 (am 1 x.b 16777216)) (.slice a3 lq.length k3) (.int .i64 (x.c 0)) (.int .i64 (x.c 1)) (.int .i64 (x.c 2)) (.int .i64 (q3)) (.int .i64 (x.c 4)) (.int .i64 (x.c 5))
  have hZ := atQ9_put hX2_5 (.int .i64 (am 1 x.m 1024)) (.int .i64 (am 1 x.b 16777216)) (.slice a3 lq.length k3) (.int .i64 (x.c 0)) (.int .i64 (x.c 1)) (.int .i64 (x.c 2)) (.int .i64 (q3)) (.int .i64 (x.c 4)) (.int .i64 (x.c 5))
  have HI8 := Lib.hid (hI5.only hX2_5 ho (by decide) (by decide))
  have HK8 := Lib.hid ((hK4d.trans hK5).onlyNew (by rw [HG.out]; exact hle2) ho)
  have HL8 := Lib.hid (hL5.keep (W' := (((((((((w5.setCell ⟨g2, 0, none⟩ (.int .i64 (am 1 x.m 1024))).setCell ⟨g2, 1, none⟩ (.int .i64 (am 1 x.b 16777216))).setCell ⟨g2, 2, none⟩ (.slice a3 lq.length k3)).setCell ⟨g2, 3, none⟩ (.int .i64 (x.c 0))).setCell ⟨g2, 4, none⟩ (.int .i64 (x.c 1))).setCell ⟨g2, 5, none⟩ (.int .i64 (x.c 2))).setCell ⟨g2, 6, none⟩ (.int .i64 (q3))).setCell ⟨g2, 7, none⟩ (.int .i64 (x.c 4))).setCell ⟨g2, 8, none⟩ (.int .i64 (x.c 5)))) (by rw [ho.size]; exact Nat.le_refl _) (fun k cs hk hc => ho.block k (fun e' => by
    subst e'
    exact blkQ_ne (T := 84) (T' := 34) hc hX2_5 (by decide) rfl)))
  have hY8 := hY5.only hne23 ho
  have hX18 := hX1_5.only hne12 ho
  have hS8 := And.intro hY8.cells9 hX18.cells7
  obtain ⟨d0, d1, d2, d3, d4, d5, d6, d7, d8⟩ := hZ.cells9
  obtain ⟨_, _, _, _, _, _, _, _, _⟩ := hX2_5.cells9
  obtain ⟨_, _, _, _, _, _, _, _, _⟩ := hX2_5.frees9
  refine ordM_ready [11] (by kernel_rfl) (by simp) ?_
  refine AllReadyM.cons rfl (fun K hK => ?_) AllReadyM.nil
  go_simp
  refine hK.out _ _ (fun _ => hS8) ?_
  clear hK K
  (try simp only [Act.put, List.setIfInBounds_toArray, List.set_cons_zero, List.set_cons_succ])
  refine ordM_take 12 ?vq42 rfl (by kernel_rfl) (by kernel_rfl) (by kernel_rfl) (by kernel_rfl) (fun _ _ _ h => h) (by rfl) ?hq42 (by assumption) ?rq42
  case hq42 => (intro W hSw; (try dsimp only at hSw); go_simp <;> with_reducible rfl)
  (try simp only [Act.put, List.setIfInBounds_toArray, List.set_cons_zero, List.set_cons_succ])
  refine ordM_done (by kernel_rfl) ?_ _
  refine NoPanic.normal ?_
  clear ho hZ hY8 hX18 hS8 hS5 hY5 hX1_5 hX2_5 hL5 hSd hX1d hX2d hYd hId hLd
  repeat (first | go_skip | go_guarded | go_step | go_upon | go_back)
  have hx0 : x'.c 0 = x.c 0 := by rw [hcc]; cases r' <;> simp [bump]
  have hx1 : x'.c 1 = x.c 1 := by rw [hcc]; cases r' <;> simp [bump]
  have hx2 : x'.c 2 = x.c 2 := by rw [hcc]; cases r' <;> simp [bump]
  have hx3 : x'.c 3 = q3 := by rw [← HQ3.out, hcc]; cases r' <;> simp [bump]
  have hx4 : x'.c 4 = x.c 4 := by rw [hcc]; cases r' <;> simp [bump]
  have hx5 : x'.c 5 = x.c 5 := by rw [hcc]; cases r' <;> simp [bump]
  have hct' : ∀ i, x.c i ≤ x'.c i ∧ x'.c i ≤ x.c i + 1 := fun i => by
    rw [hcc, bump_if]
    split <;> omega
  refine bodyPost_ret (v := .tuple #[.agg #[.int .i64 (am 1 x.m 1024), .int .i64 (am 1 x.b 16777216), .slice a3 lq.length k3, .int .i64 (x.c 0), .int .i64 (x.c 1), .int .i64 (x.c 2), .int .i64 (q3), .int .i64 (x.c 4), .int .i64 (x.c 5)], .bool true]) (by simp [results, Try.results9, go_sem, d0, d1, d2, d3, d4, d5, d6, d7, d8]) rfl ⟨x', .slice a3 lq.length k3, lq, by rw [hx0, hx1, hx2, hx3, hx4, hx5], ⟨HI8.out, HE5.out, HL8.out, HK8.out, hlim, HLEN.out, hct'⟩⟩
set_option maxRecDepth 100000 in
set_option maxHeartbeats 12800000 in
theorem neDo4 {w : World} {base gn n : Nat} {x : NE} {vx : Value} {l : List OD} (hI : NIn w base gn n x) (he : NeEq x l) (hL : OwnE w 0 84 3 vx l.length (odV l)) (hn : n ≤ 65535) (hl : l.length ≤ 65535) (hc : ∀ i, 0 ≤ x.c i ∧ x.c i ≤ 1099511627776) (wy pt ix bt : Int) (mk : Nat) (hmk : mk < 4294967296) (d : ByteArray) (hwf : wf2 wy pt) (wds : d.size ≤ 9223372036854775807) :
    Calls Try.prog 9 #[.pointer (some ⟨gn, 0, none⟩), neRv (am 1 x.m 1024) (am 1 x.b 16777216) vx (x.c 0) (x.c 1) (x.c 2) (x.c 3) (x.c 4) (x.c 5), .agg #[.int .i64 4, .int .i64 wy, .int .i64 pt, .int .i64 ix, .int .i64 bt, .int .u32 (mk : Int), .string d]] w fun e w' => ∃ (x' : NE) (v' : Value) (l' : List OD), e = .returned (.tuple #[neRv (am 1 x.m 1024) (am 1 x.b 16777216) v' (x'.c 0) (x'.c 1) (x'.c 2) (x'.c 3) (x'.c 4) (x'.c 5), .bool true]) ∧ NeDone w w' base gn n x x' v' l l' := by
  obtain ⟨ax, cap, rfl⟩ := hL.formG
  have hcs := nm_cutB d 40
  have HCUT := Lib.hid (fun W => cut_any d 40 W wds (by omega))
  generalize cutB d 40 = s at hcs HCUT
  have HPu := Lib.hid (fun W (hW : OwnE W 0 84 3 (.slice ax l.length cap) l.length (odV l)) => refNeTurn_any (am 1 x.m 1024) (am 1 x.b 16777216) (x.c 0) (x.c 1) (x.c 2) (x.c 3) (x.c 4) (x.c 5) wy pt ix bt mk hmk hW hl he.tx (hc 4))
  have HPP := Lib.hid (fun W (hQ : NIn W base gn n x) => neTurn_any hQ hwf ix bt mk hmk hc)
  have HSI := Lib.hid (fun (r r' : Bool) (x' : NE) (l' : List OD) (h : NeTurn x wy pt ix bt mk r x') (hr : NeTurnR l wy pt ix bt mk r' l') => h.sim hr he)
  unfold neRv at HPu ⊢
  have HCC := Lib.hid hc
  have hX0 := ((atQ_new 34 w w.heap.size #[.int .i64 (am 1 x.m 1024), .int .i64 (am 1 x.b 16777216), .slice ax l.length cap, .int .i64 (x.c 0), .int .i64 (x.c 1), .int .i64 (x.c 2), .int .i64 (x.c 3), .int .i64 (x.c 4), .int .i64 (x.c 5)] rfl).later (W' := ((w.alloc (.cells #[.int .i64 (am 1 x.m 1024), .int .i64 (am 1 x.b 16777216), .slice ax l.length cap, .int .i64 (x.c 0), .int .i64 (x.c 1), .int .i64 (x.c 2), .int .i64 (x.c 3), .int .i64 (x.c 4), .int .i64 (x.c 5)] 34)).alloc (.cells #[.int .i64 4, .int .i64 wy, .int .i64 pt, .int .i64 ix, .int .i64 bt, .int .u32 (mk : Int), .string d] 40))) ((Below.refl _ _).alloc (Nat.le_refl _) _)).later (W' := (((w.alloc (.cells #[.int .i64 (am 1 x.m 1024), .int .i64 (am 1 x.b 16777216), .slice ax l.length cap, .int .i64 (x.c 0), .int .i64 (x.c 1), .int .i64 (x.c 2), .int .i64 (x.c 3), .int .i64 (x.c 4), .int .i64 (x.c 5)] 34)).alloc (.cells #[.int .i64 4, .int .i64 wy, .int .i64 pt, .int .i64 ix, .int .i64 bt, .int .u32 (mk : Int), .string d] 40)).alloc (.cells #[.int .i64 0, .int .i64 0, .slice none 0 0, .int .i64 0, .int .i64 0, .int .i64 0, .int .i64 0, .int .i64 0, .int .i64 0] 34))) ((Below.refl _ _).alloc (Nat.le_refl _) _)
  have hX1 := (atQ_new 40 (w.alloc (.cells #[.int .i64 (am 1 x.m 1024), .int .i64 (am 1 x.b 16777216), .slice ax l.length cap, .int .i64 (x.c 0), .int .i64 (x.c 1), .int .i64 (x.c 2), .int .i64 (x.c 3), .int .i64 (x.c 4), .int .i64 (x.c 5)] 34)) (w.heap.size + 1) #[.int .i64 4, .int .i64 wy, .int .i64 pt, .int .i64 ix, .int .i64 bt, .int .u32 (mk : Int), .string d] (by simp)).later (W' := (((w.alloc (.cells #[.int .i64 (am 1 x.m 1024), .int .i64 (am 1 x.b 16777216), .slice ax l.length cap, .int .i64 (x.c 0), .int .i64 (x.c 1), .int .i64 (x.c 2), .int .i64 (x.c 3), .int .i64 (x.c 4), .int .i64 (x.c 5)] 34)).alloc (.cells #[.int .i64 4, .int .i64 wy, .int .i64 pt, .int .i64 ix, .int .i64 bt, .int .u32 (mk : Int), .string d] 40)).alloc (.cells #[.int .i64 0, .int .i64 0, .slice none 0 0, .int .i64 0, .int .i64 0, .int .i64 0, .int .i64 0, .int .i64 0, .int .i64 0] 34))) ((Below.refl _ _).alloc (Nat.le_refl _) _)
  have hX2 := atQ_new 34 ((w.alloc (.cells #[.int .i64 (am 1 x.m 1024), .int .i64 (am 1 x.b 16777216), .slice ax l.length cap, .int .i64 (x.c 0), .int .i64 (x.c 1), .int .i64 (x.c 2), .int .i64 (x.c 3), .int .i64 (x.c 4), .int .i64 (x.c 5)] 34)).alloc (.cells #[.int .i64 4, .int .i64 wy, .int .i64 pt, .int .i64 ix, .int .i64 bt, .int .u32 (mk : Int), .string d] 40)) (w.heap.size + 1 + 1) #[.int .i64 0, .int .i64 0, .slice none 0 0, .int .i64 0, .int .i64 0, .int .i64 0, .int .i64 0, .int .i64 0, .int .i64 0] (by simp)
  have hb : Below w.heap.size w (((w.alloc (.cells #[.int .i64 (am 1 x.m 1024), .int .i64 (am 1 x.b 16777216), .slice ax l.length cap, .int .i64 (x.c 0), .int .i64 (x.c 1), .int .i64 (x.c 2), .int .i64 (x.c 3), .int .i64 (x.c 4), .int .i64 (x.c 5)] 34)).alloc (.cells #[.int .i64 4, .int .i64 wy, .int .i64 pt, .int .i64 ix, .int .i64 bt, .int .u32 (mk : Int), .string d] 40)).alloc (.cells #[.int .i64 0, .int .i64 0, .slice none 0 0, .int .i64 0, .int .i64 0, .int .i64 0, .int .i64 0, .int .i64 0, .int .i64 0] 34)) := (((Below.refl _ _).alloc (Nat.le_refl _) _).alloc (by simp) _).alloc (by simp; omega) _
  go_enter Try.func9, Try.ntmps9
  go_upto_region 1 with fail
  generalize (((w.alloc (.cells #[.int .i64 (am 1 x.m 1024), .int .i64 (am 1 x.b 16777216), .slice ax l.length cap, .int .i64 (x.c 0), .int .i64 (x.c 1), .int .i64 (x.c 2), .int .i64 (x.c 3), .int .i64 (x.c 4), .int .i64 (x.c 5)] 34)).alloc (.cells #[.int .i64 4, .int .i64 wy, .int .i64 pt, .int .i64 ix, .int .i64 bt, .int .u32 (mk : Int), .string d] 40)).alloc (.cells #[.int .i64 0, .int .i64 0, .slice none 0 0, .int .i64 0, .int .i64 0, .int .i64 0, .int .i64 0, .int .i64 0, .int .i64 0] 34)) = w2 at *
  have hI2 := hI.later hb
  have hL2 := hL.later hb
  have hK2 : NKeep gn x w w2 x := nKeep_below hb
  generalize hg2 : w.heap.size + 1 + 1 = g2 at *
  generalize hg1 : w.heap.size + 1 = g1 at *
  generalize hg0 : w.heap.size = g0 at *
  have hle2 : g0 ≤ g2 := by omega
  have hne12 : g1 ≠ g2 := by omega
  have HG := Lib.hid hg0
  clear hg0 hg1 hg2 hI hL hb hc wds he
  obtain ⟨_, _, _, _, _, _, _, _, _⟩ := hX0.cells9
  obtain ⟨_, _, _, _, _, _, _⟩ := hX1.cells7
  go_wp2_with fail
  refine (HCUT.out _).mono ?_
  rintro e w2' ⟨rfl, hq⟩
  subst hq
  go_wp2_with fail
  refine (HPu.out _ hL2).mono ?_
  rintro e w3 ⟨r, lq, v3, rfl, hct, hL3, hb3⟩
  have HCT := Lib.hid hct
  have HLEN : Hid (lq.length ≤ l.length + 1) := Lib.hid (Nat.le_succ_of_le hct.len)
  clear hct
  obtain ⟨a3, k3, rfl⟩ := hL3.formG
  generalize hq4 : (if r = true then x.c 4 + 1 else x.c 4) = q4 at *
  have HQ4 := Lib.hid hq4
  clear hq4
  have hX1_3 := hX1.later hb3
  have hX2_3 := hX2.later hb3
  have hI3 := hI2.later hb3
  have hK3 : NKeep gn x w w3 x := hK2.trans (nKeep_below hb3)
  have hsz3 := hb3.size
  have hal : Below w3.heap.size w3 (w3.alloc (.cells #[.int .i64 (am 1 x.m 1024), .int .i64 (am 1 x.b 16777216), .slice a3 lq.length k3, .int .i64 (x.c 0), .int .i64 (x.c 1), .int .i64 (x.c 2), .int .i64 (x.c 3), .int .i64 (q4), .int .i64 (x.c 5)] 34)) := (Below.refl _ _).alloc (Nat.le_refl _) _
  have hY := atQ_new 34 w3 w3.heap.size #[.int .i64 (am 1 x.m 1024), .int .i64 (am 1 x.b 16777216), .slice a3 lq.length k3, .int .i64 (x.c 0), .int .i64 (x.c 1), .int .i64 (x.c 2), .int .i64 (x.c 3), .int .i64 (q4), .int .i64 (x.c 5)] rfl
  have hX1_4 := hX1_3.later hal
  have hX2_4 := hX2_3.later hal
  have hI4 := hI3.later hal
  have hL4 := hL3.later hal
  have hK4 : NKeep gn x w (w3.alloc (.cells #[.int .i64 (am 1 x.m 1024), .int .i64 (am 1 x.b 16777216), .slice a3 lq.length k3, .int .i64 (x.c 0), .int .i64 (x.c 1), .int .i64 (x.c 2), .int .i64 (x.c 3), .int .i64 (q4), .int .i64 (x.c 5)] 34)) x := hK3.trans (nKeep_below hal)
  have hne23 : w3.heap.size ≠ g2 := by have := hX2_3.lt; omega
  clear hX0 hX1 hX2 hI2 hK2 hL2 hL3 hX1_3 hX2_3 hI3 hK3 hb3 HPu
  go_upto_region 18 with fail
  generalize (w3.alloc (.cells #[.int .i64 (am 1 x.m 1024), .int .i64 (am 1 x.b 16777216), .slice a3 lq.length k3, .int .i64 (x.c 0), .int .i64 (x.c 1), .int .i64 (x.c 2), .int .i64 (x.c 3), .int .i64 (q4), .int .i64 (x.c 5)] 34)) = w4 at *
  generalize w3.heap.size = g3 at *
  have hX1d := hX1_4.drew
  have hX2d := hX2_4.drew
  have hYd := hY.drew
  have hId := hI4.drew
  have hLd := hL4.later (Below.refl _ _).drew
  have hK4d : NKeep gn x w w4.drew x := ⟨hK4.size, hK4.block, hK4.foot, hK4.env.trans (sameE_below (Below.refl 0 w4).drew)⟩
  clear hX1_4 hX2_4 hY hI4 hL4 hK4
  have hSd := And.intro hYd.cells9 hX1d.cells7
  refine wp_region_noPanic ?_
  refine ordM_begin (fun W : World => (W.cell? ⟨g3, 0, none⟩ = some (.int .i64 (am 1 x.m 1024)) ∧ W.cell? ⟨g3, 1, none⟩ = some (.int .i64 (am 1 x.b 16777216)) ∧ W.cell? ⟨g3, 2, none⟩ = some (.slice a3 lq.length k3) ∧ W.cell? ⟨g3, 3, none⟩ = some (.int .i64 (x.c 0)) ∧ W.cell? ⟨g3, 4, none⟩ = some (.int .i64 (x.c 1)) ∧ W.cell? ⟨g3, 5, none⟩ = some (.int .i64 (x.c 2)) ∧ W.cell? ⟨g3, 6, none⟩ = some (.int .i64 (x.c 3)) ∧ W.cell? ⟨g3, 7, none⟩ = some (.int .i64 (q4)) ∧ W.cell? ⟨g3, 8, none⟩ = some (.int .i64 (x.c 5))) ∧ W.cell? ⟨g1, 0, none⟩ = some (.int .i64 4) ∧ W.cell? ⟨g1, 1, none⟩ = some (.int .i64 wy) ∧ W.cell? ⟨g1, 2, none⟩ = some (.int .i64 pt) ∧ W.cell? ⟨g1, 3, none⟩ = some (.int .i64 ix) ∧ W.cell? ⟨g1, 4, none⟩ = some (.int .i64 bt) ∧ W.cell? ⟨g1, 5, none⟩ = some (.int .u32 (mk : Int)) ∧ W.cell? ⟨g1, 6, none⟩ = some (.string d)) (fun i => false) (by kernel_rfl) hSd ?_
  generalize w4.drew = wd at *
  refine ordM_take 0 ?vq43 rfl (by kernel_rfl) (by kernel_rfl) (by kernel_rfl) (by kernel_rfl) (fun _ _ _ h => h) (by rfl) ?hq43 (by assumption) ?rq43
  case hq43 => (intro W hSw; (try dsimp only at hSw); go_simp <;> with_reducible rfl)
  (try simp only [Act.put, List.setIfInBounds_toArray, List.set_cons_zero, List.set_cons_succ])
  refine ordM_take 1 ?vq44 rfl (by kernel_rfl) (by kernel_rfl) (by kernel_rfl) (by kernel_rfl) (fun _ _ _ h => h) (by rfl) ?hq44 (by assumption) ?rq44
  case hq44 => (intro W hSw; (try dsimp only at hSw); go_simp <;> with_reducible rfl)
  (try simp only [Act.put, List.setIfInBounds_toArray, List.set_cons_zero, List.set_cons_succ])
  refine ordM_take 2 ?vq45 rfl (by kernel_rfl) (by kernel_rfl) (by kernel_rfl) (by kernel_rfl) (fun _ _ _ h => h) (by rfl) ?hq45 (by assumption) ?rq45
  case hq45 => (intro W hSw; (try dsimp only at hSw); go_simp <;> with_reducible rfl)
  (try simp only [Act.put, List.setIfInBounds_toArray, List.set_cons_zero, List.set_cons_succ])
  refine ordM_take 3 ?vq46 rfl (by kernel_rfl) (by kernel_rfl) (by kernel_rfl) (by kernel_rfl) (fun _ _ _ h => h) (by rfl) ?hq46 (by assumption) ?rq46
  case hq46 => (intro W hSw; (try dsimp only at hSw); go_simp <;> with_reducible rfl)
  (try simp only [Act.put, List.setIfInBounds_toArray, List.set_cons_zero, List.set_cons_succ])
  refine ordM_take 4 ?vq47 rfl (by kernel_rfl) (by kernel_rfl) (by kernel_rfl) (by kernel_rfl) (fun _ _ _ h => h) (by rfl) ?hq47 (by assumption) ?rq47
  case hq47 => (intro W hSw; (try dsimp only at hSw); go_simp <;> with_reducible rfl)
  (try simp only [Act.put, List.setIfInBounds_toArray, List.set_cons_zero, List.set_cons_succ])
  refine ordM_take 5 ?vq48 rfl (by kernel_rfl) (by kernel_rfl) (by kernel_rfl) (by kernel_rfl) (fun _ _ _ h => h) (by rfl) ?hq48 (by assumption) ?rq48
  case hq48 => (intro W hSw; (try dsimp only at hSw); go_simp <;> with_reducible rfl)
  (try simp only [Act.put, List.setIfInBounds_toArray, List.set_cons_zero, List.set_cons_succ])
  refine ordM_take 6 ?vq49 rfl (by kernel_rfl) (by kernel_rfl) (by kernel_rfl) (by kernel_rfl) (fun _ _ _ h => h) (by rfl) ?hq49 (by assumption) ?rq49
  case hq49 => (intro W hSw; (try dsimp only at hSw); go_simp <;> with_reducible rfl)
  (try simp only [Act.put, List.setIfInBounds_toArray, List.set_cons_zero, List.set_cons_succ])
  refine ordM_take 7 ?vq50 rfl (by kernel_rfl) (by kernel_rfl) (by kernel_rfl) (by kernel_rfl) (fun _ _ _ h => h) (by rfl) ?hq50 (by assumption) ?rq50
  case hq50 => (intro W hSw; (try dsimp only at hSw); go_simp <;> with_reducible rfl)
  (try simp only [Act.put, List.setIfInBounds_toArray, List.set_cons_zero, List.set_cons_succ])
  refine ordM_take 8 ?vq51 rfl (by kernel_rfl) (by kernel_rfl) (by kernel_rfl) (by kernel_rfl) (fun _ _ _ h => h) (by rfl) ?hq51 (by assumption) ?rq51
  case hq51 => (intro W hSw; (try dsimp only at hSw); go_simp <;> with_reducible rfl)
  (try simp only [Act.put, List.setIfInBounds_toArray, List.set_cons_zero, List.set_cons_succ])
  refine ordM_take 9 ?vq52 rfl (by kernel_rfl) (by kernel_rfl) (by kernel_rfl) (by kernel_rfl) (fun _ _ _ h => h) (by rfl) ?hq52 (by assumption) ?rq52
  case hq52 => (intro W hSw; (try dsimp only at hSw); go_simp <;> with_reducible rfl)
  (try simp only [Act.put, List.setIfInBounds_toArray, List.set_cons_zero, List.set_cons_succ])
  refine ordM_take 10 ?vq53 rfl (by kernel_rfl) (by kernel_rfl) (by kernel_rfl) (by kernel_rfl) (fun _ _ _ h => h) (by rfl) ?hq53 (by assumption) ?rq53
  case hq53 => (intro W hSw; (try dsimp only at hSw); go_simp <;> with_reducible rfl)
  (try simp only [Act.put, List.setIfInBounds_toArray, List.set_cons_zero, List.set_cons_succ])
  refine ordM_take 11 ?vq54 rfl (by kernel_rfl) (by kernel_rfl) (by kernel_rfl) (by kernel_rfl) (fun _ _ _ h => h) (by rfl) ?hq54 (by assumption) ?rq54
  case hq54 => (intro W hSw; (try dsimp only at hSw); go_simp <;> with_reducible rfl)
  (try simp only [Act.put, List.setIfInBounds_toArray, List.set_cons_zero, List.set_cons_succ])
  refine ordM_take 13 ?vq55 rfl (by kernel_rfl) (by kernel_rfl) (by kernel_rfl) (by kernel_rfl) (fun _ _ _ h => h) (by rfl) ?hq55 (by assumption) ?rq55
  case hq55 => (intro W hSw; (try dsimp only at hSw); go_simp <;> with_reducible rfl)
  (try simp only [Act.put, List.setIfInBounds_toArray, List.set_cons_zero, List.set_cons_succ])
  refine ordM_ready [12] (by kernel_rfl) (by simp) ?_
  refine AllReadyM.cons rfl (fun K hK => ?_) AllReadyM.nil
  go_simp
  go_at_call 27
  refine (HPP.out _ hId).mono ?_
  rintro e w5 ⟨r', x', rfl, hN, hI5', hK5⟩
  have hI5 := hI5'.mono (Nat.le_succ n)
  clear hI5'
  obtain ⟨hr, hE5, hlim, hcc⟩ := HSI.out _ _ _ _ hN HCT.out
  subst hr
  have HE5 := Lib.hid hE5
  clear hE5 hN
  have hY5 := hYd.nkeep hId hK5 (by decide) (by decide)
  have hX1_5 := hX1d.nkeep hId hK5 (by decide) (by decide)
  have hX2_5 := hX2d.nkeep hId hK5 (by decide) (by decide)
  have hL5 := hLd.nkeep hId hK5 (by decide) (by decide)
  have hS5 := And.intro hY5.cells9 hX1_5.cells7
  (try go_wp2_with fail)
  refine hK.out _ _ (fun _ => hS5) ?_
  clear hK K
  (try simp only [Act.put, List.setIfInBounds_toArray, List.set_cons_zero, List.set_cons_succ])
  refine ordM_take 14 ?vq56 rfl (by kernel_rfl) (by kernel_rfl) (by kernel_rfl) (by kernel_rfl) (fun _ _ _ h => h) (by rfl) ?hq56 (by assumption) ?rq56
  case hq56 => (intro W hSw; (try dsimp only at hSw); go_simp <;> with_reducible rfl)
  (try simp only [Act.put, List.setIfInBounds_toArray, List.set_cons_zero, List.set_cons_succ])
  (try simp only [beq_self_eq_true])
  have ho := put9_only w5 g2 (.int .i64 (am 1 x.m 1024)) (.int .i64 (am 1 x.b 16777216)) (.slice a3 lq.length k3) (.int .i64 (x.c 0)) (.int .i64 (x.c 1)) (.int .i64 (x.c 2)) (.int .i64 (x.c 3)) (.int .i64 (q4)) (.int .i64 (x.c 5))
  have hZ := atQ9_put hX2_5 (.int .i64 (am 1 x.m 1024)) (.int .i64 (am 1 x.b 16777216)) (.slice a3 lq.length k3) (.int .i64 (x.c 0)) (.int .i64 (x.c 1)) (.int .i64 (x.c 2)) (.int .i64 (x.c 3)) (.int .i64 (q4)) (.int .i64 (x.c 5))
  have HI8 := Lib.hid (hI5.only hX2_5 ho (by decide) (by decide))
  have HK8 := Lib.hid ((hK4d.trans hK5).onlyNew (by rw [HG.out]; exact hle2) ho)
  have HL8 := Lib.hid (hL5.keep (W' := (((((((((w5.setCell ⟨g2, 0, none⟩ (.int .i64 (am 1 x.m 1024))).setCell ⟨g2, 1, none⟩ (.int .i64 (am 1 x.b 16777216))).setCell ⟨g2, 2, none⟩ (.slice a3 lq.length k3)).setCell ⟨g2, 3, none⟩ (.int .i64 (x.c 0))).setCell ⟨g2, 4, none⟩ (.int .i64 (x.c 1))).setCell ⟨g2, 5, none⟩ (.int .i64 (x.c 2))).setCell ⟨g2, 6, none⟩ (.int .i64 (x.c 3))).setCell ⟨g2, 7, none⟩ (.int .i64 (q4))).setCell ⟨g2, 8, none⟩ (.int .i64 (x.c 5)))) (by rw [ho.size]; exact Nat.le_refl _) (fun k cs hk hc => ho.block k (fun e' => by
    subst e'
    exact blkQ_ne (T := 84) (T' := 34) hc hX2_5 (by decide) rfl)))
  have hY8 := hY5.only hne23 ho
  have hX18 := hX1_5.only hne12 ho
  have hS8 := And.intro hY8.cells9 hX18.cells7
  obtain ⟨d0, d1, d2, d3, d4, d5, d6, d7, d8⟩ := hZ.cells9
  obtain ⟨_, _, _, _, _, _, _, _, _⟩ := hX2_5.cells9
  obtain ⟨_, _, _, _, _, _, _, _, _⟩ := hX2_5.frees9
  refine ordM_ready [15] (by kernel_rfl) (by simp) ?_
  refine AllReadyM.cons rfl (fun K hK => ?_) AllReadyM.nil
  go_simp
  refine hK.out _ _ (fun _ => hS8) ?_
  clear hK K
  (try simp only [Act.put, List.setIfInBounds_toArray, List.set_cons_zero, List.set_cons_succ])
  refine ordM_take 16 ?vq57 rfl (by kernel_rfl) (by kernel_rfl) (by kernel_rfl) (by kernel_rfl) (fun _ _ _ h => h) (by rfl) ?hq57 (by assumption) ?rq57
  case hq57 => (intro W hSw; (try dsimp only at hSw); go_simp <;> with_reducible rfl)
  (try simp only [Act.put, List.setIfInBounds_toArray, List.set_cons_zero, List.set_cons_succ])
  refine ordM_done (by kernel_rfl) ?_ _
  refine NoPanic.normal ?_
  clear ho hZ hY8 hX18 hS8 hS5 hY5 hX1_5 hX2_5 hL5 hSd hX1d hX2d hYd hId hLd
  repeat (first | go_skip | go_guarded | go_step | go_upon | go_back)
  have hx0 : x'.c 0 = x.c 0 := by rw [hcc]; cases r' <;> simp [bump]
  have hx1 : x'.c 1 = x.c 1 := by rw [hcc]; cases r' <;> simp [bump]
  have hx2 : x'.c 2 = x.c 2 := by rw [hcc]; cases r' <;> simp [bump]
  have hx3 : x'.c 3 = x.c 3 := by rw [hcc]; cases r' <;> simp [bump]
  have hx4 : x'.c 4 = q4 := by rw [← HQ4.out, hcc]; cases r' <;> simp [bump]
  have hx5 : x'.c 5 = x.c 5 := by rw [hcc]; cases r' <;> simp [bump]
  have hct' : ∀ i, x.c i ≤ x'.c i ∧ x'.c i ≤ x.c i + 1 := fun i => by
    rw [hcc, bump_if]
    split <;> omega
  refine bodyPost_ret (v := .tuple #[.agg #[.int .i64 (am 1 x.m 1024), .int .i64 (am 1 x.b 16777216), .slice a3 lq.length k3, .int .i64 (x.c 0), .int .i64 (x.c 1), .int .i64 (x.c 2), .int .i64 (x.c 3), .int .i64 (q4), .int .i64 (x.c 5)], .bool true]) (by simp [results, Try.results9, go_sem, d0, d1, d2, d3, d4, d5, d6, d7, d8]) rfl ⟨x', .slice a3 lq.length k3, lq, by rw [hx0, hx1, hx2, hx3, hx4, hx5], ⟨HI8.out, HE5.out, HL8.out, HK8.out, hlim, HLEN.out, hct'⟩⟩
end Go.Proofs.Ytbmbomojnljccaa
