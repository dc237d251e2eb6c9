/- net: the law's do: Send, Forge. -/
import Derived.Test.YtbmbomojnljccaaNeY
import Derived.Test.YtbmbomojnljccaaOrdM
namespace Go.Proofs.Ytbmbomojnljccaa
open Go.RowKit Go.Maps
set_option linter.unusedVariables false
set_option linter.unusedSimpArgs false
/-- Behind a call of both sides. -/
structure NeDone (w w' : World) (base gn n : Nat) (x x' : NE) (v' : Value) (l l' : List OD) : Prop where
  nin : NIn w' base gn (n + 1) x'
  eq : NeEq x' l'
  row : OwnE w' 0 84 3 v' l'.length (odV l')
  keep : NKeep gn x w w' x'
  lim : NeLim x x'
  len : l'.length ≤ l.length + 1
  ct : ∀ i, x.c i ≤ x'.c i ∧ x'.c i ≤ x.c i + 1
set_option maxRecDepth 100000 in
set_option maxHeartbeats 12800000 in
theorem neDo0 {w : World} {base gn n : Nat} {x : NE} {vx : Value} {l : List OD} (hI : NIn w base gn n x) (he : NeEq x l) (hL : OwnE w 0 84 3 vx l.length (odV l)) (hn : n ≤ 65535) (hl : l.length ≤ 65535) (hc : ∀ i, 0 ≤ x.c i ∧ x.c i ≤ 1099511627776) (wy pt ix bt : Int) (mk : Nat) (hmk : mk < 4294967296) (d : ByteArray) (hwf : wf2 wy pt) (wds : d.size ≤ 9223372036854775807) :
    Calls Try.prog 9 #[.pointer (some ⟨gn, 0, none⟩), neRv (am 1 x.m 1024) (am 1 x.b 16777216) vx (x.c 0) (x.c 1) (x.c 2) (x.c 3) (x.c 4) (x.c 5), .agg #[.int .i64 0, .int .i64 wy, .int .i64 pt, .int .i64 ix, .int .i64 bt, .int .u32 (mk : Int), .string d]] w fun e w' => ∃ (x' : NE) (v' : Value) (l' : List OD), e = .returned (.tuple #[neRv (am 1 x.m 1024) (am 1 x.b 16777216) v' (x'.c 0) (x'.c 1) (x'.c 2) (x'.c 3) (x'.c 4) (x'.c 5), .bool true]) ∧ NeDone w w' base gn n x x' v' l l' := by
  obtain ⟨ax, cap, rfl⟩ := hL.formG
  have hcs := nm_cutB d 40
  have HCUT := Lib.hid (fun W => cut_any d 40 W wds (by omega))
  generalize cutB d 40 = s at hcs HCUT
  have HPu := Lib.hid (fun W (hW : OwnE W 0 84 3 (.slice ax l.length cap) l.length (odV l)) => refNeSend_any (am 1 x.m 1024) (am 1 x.b 16777216) (x.c 0) (x.c 1) (x.c 2) (x.c 3) (x.c 4) (x.c 5) wy pt s hW hl (fun o ho => (he.tx o ho).2) (by omega) (hc 0) (hc 1))
  have HPP := Lib.hid (fun W (hQ : NIn W base gn n x) => neSend_any hQ hwf s (by omega) (by omega) hc)
  have HSI := Lib.hid (fun (r : Bool) (x' : NE) (h : NePut x wy pt s 0 r x') => h.sim he)
  have HLEN := Lib.hid (odPut_len (neMay (am 1 x.m 1024) (am 1 x.b 16777216) (odG l wy pt) wy pt s) l wy pt s)
  generalize neMay (am 1 x.m 1024) (am 1 x.b 16777216) (odG l wy pt) wy pt s = y at *
  generalize hlq : odPut y l wy pt s = lq at *
  have HLQ := Lib.hid hlq
  clear hlq
  unfold neRv at HPu ⊢
  have HCC := Lib.hid hc
  have hX0 := ((atQ_new 34 w w.heap.size #[.int .i64 (am 1 x.m 1024), .int .i64 (am 1 x.b 16777216), .slice ax l.length cap, .int .i64 (x.c 0), .int .i64 (x.c 1), .int .i64 (x.c 2), .int .i64 (x.c 3), .int .i64 (x.c 4), .int .i64 (x.c 5)] rfl).later (W' := ((w.alloc (.cells #[.int .i64 (am 1 x.m 1024), .int .i64 (am 1 x.b 16777216), .slice ax l.length cap, .int .i64 (x.c 0), .int .i64 (x.c 1), .int .i64 (x.c 2), .int .i64 (x.c 3), .int .i64 (x.c 4), .int .i64 (x.c 5)] 34)).alloc (.cells #[.int .i64 0, .int .i64 wy, .int .i64 pt, .int .i64 ix, .int .i64 bt, .int .u32 (mk : Int), .string d] 40))) ((Below.refl _ _).alloc (Nat.le_refl _) _)).later (W' := (((w.alloc (.cells #[.int .i64 (am 1 x.m 1024), .int .i64 (am 1 x.b 16777216), .slice ax l.length cap, .int .i64 (x.c 0), .int .i64 (x.c 1), .int .i64 (x.c 2), .int .i64 (x.c 3), .int .i64 (x.c 4), .int .i64 (x.c 5)] 34)).alloc (.cells #[.int .i64 0, .int .i64 wy, .int .i64 pt, .int .i64 ix, .int .i64 bt, .int .u32 (mk : Int), .string d] 40)).alloc (.cells #[.int .i64 0, .int .i64 0, .slice none 0 0, .int .i64 0, .int .i64 0, .int .i64 0, .int .i64 0, .int .i64 0, .int .i64 0] 34))) ((Below.refl _ _).alloc (Nat.le_refl _) _)
  have hX1 := (atQ_new 40 (w.alloc (.cells #[.int .i64 (am 1 x.m 1024), .int .i64 (am 1 x.b 16777216), .slice ax l.length cap, .int .i64 (x.c 0), .int .i64 (x.c 1), .int .i64 (x.c 2), .int .i64 (x.c 3), .int .i64 (x.c 4), .int .i64 (x.c 5)] 34)) (w.heap.size + 1) #[.int .i64 0, .int .i64 wy, .int .i64 pt, .int .i64 ix, .int .i64 bt, .int .u32 (mk : Int), .string d] (by simp)).later (W' := (((w.alloc (.cells #[.int .i64 (am 1 x.m 1024), .int .i64 (am 1 x.b 16777216), .slice ax l.length cap, .int .i64 (x.c 0), .int .i64 (x.c 1), .int .i64 (x.c 2), .int .i64 (x.c 3), .int .i64 (x.c 4), .int .i64 (x.c 5)] 34)).alloc (.cells #[.int .i64 0, .int .i64 wy, .int .i64 pt, .int .i64 ix, .int .i64 bt, .int .u32 (mk : Int), .string d] 40)).alloc (.cells #[.int .i64 0, .int .i64 0, .slice none 0 0, .int .i64 0, .int .i64 0, .int .i64 0, .int .i64 0, .int .i64 0, .int .i64 0] 34))) ((Below.refl _ _).alloc (Nat.le_refl _) _)
  have hX2 := atQ_new 34 ((w.alloc (.cells #[.int .i64 (am 1 x.m 1024), .int .i64 (am 1 x.b 16777216), .slice ax l.length cap, .int .i64 (x.c 0), .int .i64 (x.c 1), .int .i64 (x.c 2), .int .i64 (x.c 3), .int .i64 (x.c 4), .int .i64 (x.c 5)] 34)).alloc (.cells #[.int .i64 0, .int .i64 wy, .int .i64 pt, .int .i64 ix, .int .i64 bt, .int .u32 (mk : Int), .string d] 40)) (w.heap.size + 1 + 1) #[.int .i64 0, .int .i64 0, .slice none 0 0, .int .i64 0, .int .i64 0, .int .i64 0, .int .i64 0, .int .i64 0, .int .i64 0] (by simp)
  have hb : Below w.heap.size w (((w.alloc (.cells #[.int .i64 (am 1 x.m 1024), .int .i64 (am 1 x.b 16777216), .slice ax l.length cap, .int .i64 (x.c 0), .int .i64 (x.c 1), .int .i64 (x.c 2), .int .i64 (x.c 3), .int .i64 (x.c 4), .int .i64 (x.c 5)] 34)).alloc (.cells #[.int .i64 0, .int .i64 wy, .int .i64 pt, .int .i64 ix, .int .i64 bt, .int .u32 (mk : Int), .string d] 40)).alloc (.cells #[.int .i64 0, .int .i64 0, .slice none 0 0, .int .i64 0, .int .i64 0, .int .i64 0, .int .i64 0, .int .i64 0, .int .i64 0] 34)) := (((Below.refl _ _).alloc (Nat.le_refl _) _).alloc (by simp) _).alloc (by simp; omega) _
  go_enter Try.func9, Try.ntmps9
  go_upto_region 1 with fail
  generalize (((w.alloc (.cells #[.int .i64 (am 1 x.m 1024), .int .i64 (am 1 x.b 16777216), .slice ax l.length cap, .int .i64 (x.c 0), .int .i64 (x.c 1), .int .i64 (x.c 2), .int .i64 (x.c 3), .int .i64 (x.c 4), .int .i64 (x.c 5)] 34)).alloc (.cells #[.int .i64 0, .int .i64 wy, .int .i64 pt, .int .i64 ix, .int .i64 bt, .int .u32 (mk : Int), .string d] 40)).alloc (.cells #[.int .i64 0, .int .i64 0, .slice none 0 0, .int .i64 0, .int .i64 0, .int .i64 0, .int .i64 0, .int .i64 0, .int .i64 0] 34)) = w2 at *
  have hI2 := hI.later hb
  have hL2 := hL.later hb
  have hK2 : NKeep gn x w w2 x := nKeep_below hb
  generalize hg2 : w.heap.size + 1 + 1 = g2 at *
  generalize hg1 : w.heap.size + 1 = g1 at *
  generalize hg0 : w.heap.size = g0 at *
  have hle2 : g0 ≤ g2 := by omega
  have hne12 : g1 ≠ g2 := by omega
  have HG := Lib.hid hg0
  clear hg0 hg1 hg2 hI hL hb hc wds he
  obtain ⟨_, _, _, _, _, _, _, _, _⟩ := hX0.cells9
  obtain ⟨_, _, _, _, _, _, _⟩ := hX1.cells7
  go_wp2_with fail
  refine (HCUT.out _).mono ?_
  rintro e w2' ⟨rfl, hq⟩
  subst hq
  go_wp2_with fail
  refine (HPu.out _ hL2).mono ?_
  rintro e w3 ⟨v3, rfl, hL3, hb3⟩
  obtain ⟨a3, k3, rfl⟩ := hL3.formG
  generalize hq0 : (if y = true then x.c 0 + 1 else x.c 0) = q0 at *
  have HQ0 := Lib.hid hq0
  clear hq0
  generalize hq1 : (if y = true then x.c 1 else x.c 1 + 1) = q1 at *
  have HQ1 := Lib.hid hq1
  clear hq1
  have hX1_3 := hX1.later hb3
  have hX2_3 := hX2.later hb3
  have hI3 := hI2.later hb3
  have hK3 : NKeep gn x w w3 x := hK2.trans (nKeep_below hb3)
  have hsz3 := hb3.size
  have hal : Below w3.heap.size w3 (w3.alloc (.cells #[.int .i64 (am 1 x.m 1024), .int .i64 (am 1 x.b 16777216), .slice a3 lq.length k3, .int .i64 (q0), .int .i64 (q1), .int .i64 (x.c 2), .int .i64 (x.c 3), .int .i64 (x.c 4), .int .i64 (x.c 5)] 34)) := (Below.refl _ _).alloc (Nat.le_refl _) _
  have hY := atQ_new 34 w3 w3.heap.size #[.int .i64 (am 1 x.m 1024), .int .i64 (am 1 x.b 16777216), .slice a3 lq.length k3, .int .i64 (q0), .int .i64 (q1), .int .i64 (x.c 2), .int .i64 (x.c 3), .int .i64 (x.c 4), .int .i64 (x.c 5)] rfl
  have hX1_4 := hX1_3.later hal
  have hX2_4 := hX2_3.later hal
  have hI4 := hI3.later hal
  have hL4 := hL3.later hal
  have hK4 : NKeep gn x w (w3.alloc (.cells #[.int .i64 (am 1 x.m 1024), .int .i64 (am 1 x.b 16777216), .slice a3 lq.length k3, .int .i64 (q0), .int .i64 (q1), .int .i64 (x.c 2), .int .i64 (x.c 3), .int .i64 (x.c 4), .int .i64 (x.c 5)] 34)) x := hK3.trans (nKeep_below hal)
  have hne23 : w3.heap.size ≠ g2 := by have := hX2_3.lt; omega
  clear hX0 hX1 hX2 hI2 hK2 hL2 hL3 hX1_3 hX2_3 hI3 hK3 hb3 HPu
  go_upto_region 5 with fail
  generalize (w3.alloc (.cells #[.int .i64 (am 1 x.m 1024), .int .i64 (am 1 x.b 16777216), .slice a3 lq.length k3, .int .i64 (q0), .int .i64 (q1), .int .i64 (x.c 2), .int .i64 (x.c 3), .int .i64 (x.c 4), .int .i64 (x.c 5)] 34)) = w4 at *
  generalize w3.heap.size = g3 at *
  have hX1d := hX1_4.drew
  have hX2d := hX2_4.drew
  have hYd := hY.drew
  have hId := hI4.drew
  have hLd := hL4.later (Below.refl _ _).drew
  have hK4d : NKeep gn x w w4.drew x := ⟨hK4.size, hK4.block, hK4.foot, hK4.env.trans (sameE_below (Below.refl 0 w4).drew)⟩
  clear hX1_4 hX2_4 hY hI4 hL4 hK4
  have hSd := And.intro hYd.cells9 hX1d.cells7
  refine wp_region_noPanic ?_
  refine ordM_begin (fun W : World => (W.cell? ⟨g3, 0, none⟩ = some (.int .i64 (am 1 x.m 1024)) ∧ W.cell? ⟨g3, 1, none⟩ = some (.int .i64 (am 1 x.b 16777216)) ∧ W.cell? ⟨g3, 2, none⟩ = some (.slice a3 lq.length k3) ∧ W.cell? ⟨g3, 3, none⟩ = some (.int .i64 (q0)) ∧ W.cell? ⟨g3, 4, none⟩ = some (.int .i64 (q1)) ∧ W.cell? ⟨g3, 5, none⟩ = some (.int .i64 (x.c 2)) ∧ W.cell? ⟨g3, 6, none⟩ = some (.int .i64 (x.c 3)) ∧ W.cell? ⟨g3, 7, none⟩ = some (.int .i64 (x.c 4)) ∧ W.cell? ⟨g3, 8, none⟩ = some (.int .i64 (x.c 5))) ∧ W.cell? ⟨g1, 0, none⟩ = some (.int .i64 0) ∧ W.cell? ⟨g1, 1, none⟩ = some (.int .i64 wy) ∧ W.cell? ⟨g1, 2, none⟩ = some (.int .i64 pt) ∧ W.cell? ⟨g1, 3, none⟩ = some (.int .i64 ix) ∧ W.cell? ⟨g1, 4, none⟩ = some (.int .i64 bt) ∧ W.cell? ⟨g1, 5, none⟩ = some (.int .u32 (mk : Int)) ∧ W.cell? ⟨g1, 6, none⟩ = some (.string d)) (fun i => false) (by kernel_rfl) hSd ?_
  generalize w4.drew = wd at *
  refine ordM_take 0 ?vq1 rfl (by kernel_rfl) (by kernel_rfl) (by kernel_rfl) (by kernel_rfl) (fun _ _ _ h => h) (by rfl) ?hq1 (by assumption) ?rq1
  case hq1 => (intro W hSw; (try dsimp only at hSw); go_simp <;> with_reducible rfl)
  (try simp only [Act.put, List.setIfInBounds_toArray, List.set_cons_zero, List.set_cons_succ])
  refine ordM_take 1 ?vq2 rfl (by kernel_rfl) (by kernel_rfl) (by kernel_rfl) (by kernel_rfl) (fun _ _ _ h => h) (by rfl) ?hq2 (by assumption) ?rq2
  case hq2 => (intro W hSw; (try dsimp only at hSw); go_simp <;> with_reducible rfl)
  (try simp only [Act.put, List.setIfInBounds_toArray, List.set_cons_zero, List.set_cons_succ])
  refine ordM_take 2 ?vq3 rfl (by kernel_rfl) (by kernel_rfl) (by kernel_rfl) (by kernel_rfl) (fun _ _ _ h => h) (by rfl) ?hq3 (by assumption) ?rq3
  case hq3 => (intro W hSw; (try dsimp only at hSw); go_simp <;> with_reducible rfl)
  (try simp only [Act.put, List.setIfInBounds_toArray, List.set_cons_zero, List.set_cons_succ])
  refine ordM_take 3 ?vq4 rfl (by kernel_rfl) (by kernel_rfl) (by kernel_rfl) (by kernel_rfl) (fun _ _ _ h => h) (by rfl) ?hq4 (by assumption) ?rq4
  case hq4 => (intro W hSw; (try dsimp only at hSw); go_simp <;> with_reducible rfl)
  (try simp only [Act.put, List.setIfInBounds_toArray, List.set_cons_zero, List.set_cons_succ])
  refine ordM_take 4 ?vq5 rfl (by kernel_rfl) (by kernel_rfl) (by kernel_rfl) (by kernel_rfl) (fun _ _ _ h => h) (by rfl) ?hq5 (by assumption) ?rq5
  case hq5 => (intro W hSw; (try dsimp only at hSw); go_simp <;> with_reducible rfl)
  (try simp only [Act.put, List.setIfInBounds_toArray, List.set_cons_zero, List.set_cons_succ])
  refine ordM_take 5 ?vq6 rfl (by kernel_rfl) (by kernel_rfl) (by kernel_rfl) (by kernel_rfl) (fun _ _ _ h => h) (by rfl) ?hq6 (by assumption) ?rq6
  case hq6 => (intro W hSw; (try dsimp only at hSw); go_simp <;> with_reducible rfl)
  (try simp only [Act.put, List.setIfInBounds_toArray, List.set_cons_zero, List.set_cons_succ])
  refine ordM_take 6 ?vq7 rfl (by kernel_rfl) (by kernel_rfl) (by kernel_rfl) (by kernel_rfl) (fun _ _ _ h => h) (by rfl) ?hq7 (by assumption) ?rq7
  case hq7 => (intro W hSw; (try dsimp only at hSw); go_simp <;> with_reducible rfl)
  (try simp only [Act.put, List.setIfInBounds_toArray, List.set_cons_zero, List.set_cons_succ])
  refine ordM_take 8 ?vq8 rfl (by kernel_rfl) (by kernel_rfl) (by kernel_rfl) (by kernel_rfl) (fun _ _ _ h => h) (by rfl) ?hq8 (by assumption) ?rq8
  case hq8 => (intro W hSw; (try dsimp only at hSw); go_simp <;> with_reducible rfl)
  (try simp only [Act.put, List.setIfInBounds_toArray, List.set_cons_zero, List.set_cons_succ])
  refine ordM_ready [7] (by kernel_rfl) (by simp) ?_
  refine AllReadyM.cons rfl (fun K hK => ?_) AllReadyM.nil
  go_simp
  go_at_call 14
  refine (HPP.out _ hId).mono ?_
  rintro e w5 ⟨r', x', rfl, hN, hI5, hK5⟩
  obtain ⟨hr, hE5, hlim, hcc⟩ := HSI.out _ _ hN
  subst hr
  rw [HLQ.out] at hE5
  have HE5 := Lib.hid hE5
  clear hE5 hN
  have hY5 := hYd.nkeep hId hK5 (by decide) (by decide)
  have hX1_5 := hX1d.nkeep hId hK5 (by decide) (by decide)
  have hX2_5 := hX2d.nkeep hId hK5 (by decide) (by decide)
  have hL5 := hLd.nkeep hId hK5 (by decide) (by decide)
  have hS5 := And.intro hY5.cells9 hX1_5.cells7
  (try go_wp2_with fail)
  refine hK.out _ _ (fun _ => hS5) ?_
  clear hK K
  (try simp only [Act.put, List.setIfInBounds_toArray, List.set_cons_zero, List.set_cons_succ])
  refine ordM_take 9 ?vq9 rfl (by kernel_rfl) (by kernel_rfl) (by kernel_rfl) (by kernel_rfl) (fun _ _ _ h => h) (by rfl) ?hq9 (by assumption) ?rq9
  case hq9 => (intro W hSw; (try dsimp only at hSw); go_simp <;> with_reducible rfl)
  (try simp only [Act.put, List.setIfInBounds_toArray, List.set_cons_zero, List.set_cons_succ])
  (try simp only [beq_self_eq_true])
  have ho := put9_only w5 g2 (.int .i64 (am 1 x.m 1024)) (.int .i64 (am 1 x.b 16777216)) (.slice a3 lq.length k3) (.int .i64 (q0)) (.int .i64 (q1)) (.int .i64 (x.c 2)) (.int .i64 (x.c 3)) (.int .i64 (x.c 4)) (.int .i64 (x.c 5))
  have hZ := atQ9_put hX2_5 (.int .i64 (am 1 x.m 1024)) (.int .i64 (am 1 x.b 16777216)) (.slice a3 lq.length k3) (.int .i64 (q0)) (.int .i64 (q1)) (.int .i64 (x.c 2)) (.int .i64 (x.c 3)) (.int .i64 (x.c 4)) (.int .i64 (x.c 5))
  have HI8 := Lib.hid (hI5.only hX2_5 ho (by decide) (by decide))
  have HK8 := Lib.hid ((hK4d.trans hK5).onlyNew (by rw [HG.out]; exact hle2) ho)
  have HL8 := Lib.hid (hL5.keep (W' := (((((((((w5.setCell ⟨g2, 0, none⟩ (.int .i64 (am 1 x.m 1024))).setCell ⟨g2, 1, none⟩ (.int .i64 (am 1 x.b 16777216))).setCell ⟨g2, 2, none⟩ (.slice a3 lq.length k3)).setCell ⟨g2, 3, none⟩ (.int .i64 (q0))).setCell ⟨g2, 4, none⟩ (.int .i64 (q1))).setCell ⟨g2, 5, none⟩ (.int .i64 (x.c 2))).setCell ⟨g2, 6, none⟩ (.int .i64 (x.c 3))).setCell ⟨g2, 7, none⟩ (.int .i64 (x.c 4))).setCell ⟨g2, 8, none⟩ (.int .i64 (x.c 5)))) (by rw [ho.size]; exact Nat.le_refl _) (fun k cs hk hc => ho.block k (fun e' => by
    subst e'
    exact blkQ_ne (T := 84) (T' := 34) hc hX2_5 (by decide) rfl)))
  have hY8 := hY5.only hne23 ho
  have hX18 := hX1_5.only hne12 ho
  have hS8 := And.intro hY8.cells9 hX18.cells7
  obtain ⟨d0, d1, d2, d3, d4, d5, d6, d7, d8⟩ := hZ.cells9
  obtain ⟨_, _, _, _, _, _, _, _, _⟩ := hX2_5.cells9
  obtain ⟨_, _, _, _, _, _, _, _, _⟩ := hX2_5.frees9
  refine ordM_ready [10] (by kernel_rfl) (by simp) ?_
  refine AllReadyM.cons rfl (fun K hK => ?_) AllReadyM.nil
  go_simp
  refine hK.out _ _ (fun _ => hS8) ?_
  clear hK K
  (try simp only [Act.put, List.setIfInBounds_toArray, List.set_cons_zero, List.set_cons_succ])
  refine ordM_take 11 ?vq10 rfl (by kernel_rfl) (by kernel_rfl) (by kernel_rfl) (by kernel_rfl) (fun _ _ _ h => h) (by rfl) ?hq10 (by assumption) ?rq10
  case hq10 => (intro W hSw; (try dsimp only at hSw); go_simp <;> with_reducible rfl)
  (try simp only [Act.put, List.setIfInBounds_toArray, List.set_cons_zero, List.set_cons_succ])
  refine ordM_done (by kernel_rfl) ?_ _
  refine NoPanic.normal ?_
  clear ho hZ hY8 hX18 hS8 hS5 hY5 hX1_5 hX2_5 hL5 hSd hX1d hX2d hYd hId hLd
  repeat (first | go_skip | go_guarded | go_step | go_upon | go_back)
  have hx0 : x'.c 0 = q0 := by rw [← HQ0.out, hcc]; cases r' <;> simp [bump]
  have hx1 : x'.c 1 = q1 := by rw [← HQ1.out, hcc]; cases r' <;> simp [bump]
  have hx2 : x'.c 2 = x.c 2 := by rw [hcc]; cases r' <;> simp [bump]
  have hx3 : x'.c 3 = x.c 3 := by rw [hcc]; cases r' <;> simp [bump]
  have hx4 : x'.c 4 = x.c 4 := by rw [hcc]; cases r' <;> simp [bump]
  have hx5 : x'.c 5 = x.c 5 := by rw [hcc]; cases r' <;> simp [bump]
  have hct' : ∀ i, x.c i ≤ x'.c i ∧ x'.c i ≤ x.c i + 1 := fun i => by
    rw [hcc]
    unfold bump
    repeat' split
    all_goals omega
  refine bodyPost_ret (v := .tuple #[.agg #[.int .i64 (am 1 x.m 1024), .int .i64 (am 1 x.b 16777216), .slice a3 lq.length k3, .int .i64 (q0), .int .i64 (q1), .int .i64 (x.c 2), .int .i64 (x.c 3), .int .i64 (x.c 4), .int .i64 (x.c 5)], .bool true]) (by simp [results, Try.results9, go_sem, d0, d1, d2, d3, d4, d5, d6, d7, d8]) rfl ⟨x', .slice a3 lq.length k3, lq, by rw [hx0, hx1, hx2, hx3, hx4, hx5], ⟨HI8.out, HE5.out, HL8.out, HK8.out, hlim, HLEN.out, hct'⟩⟩
set_option maxRecDepth 100000 in
set_option maxHeartbeats 12800000 in
theorem neDo5 {w : World} {base gn n : Nat} {x : NE} {vx : Value} {l : List OD} (hI : NIn w base gn n x) (he : NeEq x l) (hL : OwnE w 0 84 3 vx l.length (odV l)) (hn : n ≤ 65535) (hl : l.length ≤ 65535) (hc : ∀ i, 0 ≤ x.c i ∧ x.c i ≤ 1099511627776) (kd wy pt ix bt : Int) (mk : Nat) (hmk : mk < 4294967296) (d : ByteArray) (h0 : (kd == 0) = false) (h1 : (kd == 1) = false) (h2 : (kd == 2) = false) (h3 : (kd == 3) = false) (h4 : (kd == 4) = false) (hwf : wf2 wy pt) (wds : d.size ≤ 9223372036854775807) :
    Calls Try.prog 9 #[.pointer (some ⟨gn, 0, none⟩), neRv (am 1 x.m 1024) (am 1 x.b 16777216) vx (x.c 0) (x.c 1) (x.c 2) (x.c 3) (x.c 4) (x.c 5), .agg #[.int .i64 kd, .int .i64 wy, .int .i64 pt, .int .i64 ix, .int .i64 bt, .int .u32 (mk : Int), .string d]] w fun e w' => ∃ (x' : NE) (v' : Value) (l' : List OD), e = .returned (.tuple #[neRv (am 1 x.m 1024) (am 1 x.b 16777216) v' (x'.c 0) (x'.c 1) (x'.c 2) (x'.c 3) (x'.c 4) (x'.c 5), .bool true]) ∧ NeDone w w' base gn n x x' v' l l' := by
  obtain ⟨ax, cap, rfl⟩ := hL.formG
  have hcs := nm_cutB d 40
  have HCUT := Lib.hid (fun W => cut_any d 40 W wds (by omega))
  generalize cutB d 40 = s at hcs HCUT
  have HPu := Lib.hid (fun W (hW : OwnE W 0 84 3 (.slice ax l.length cap) l.length (odV l)) => refNeForge_any (am 1 x.m 1024) (am 1 x.b 16777216) (x.c 0) (x.c 1) (x.c 2) (x.c 3) (x.c 4) (x.c 5) wy pt s hW hl (fun o ho => (he.tx o ho).2) (by omega) (hc 5) (hc 1))
  have HPP := Lib.hid (fun W (hQ : NIn W base gn n x) => neForge_any hQ hwf s (by omega) (by omega) hc)
  have HSI := Lib.hid (fun (r : Bool) (x' : NE) (h : NePut x wy pt s 5 r x') => h.sim he)
  have HLEN := Lib.hid (odPut_len (neMay (am 1 x.m 1024) (am 1 x.b 16777216) (odG l wy pt) wy pt s) l wy pt s)
  generalize neMay (am 1 x.m 1024) (am 1 x.b 16777216) (odG l wy pt) wy pt s = y at *
  generalize hlq : odPut y l wy pt s = lq at *
  have HLQ := Lib.hid hlq
  clear hlq
  unfold neRv at HPu ⊢
  have HCC := Lib.hid hc
  have hX0 := ((atQ_new 34 w w.heap.size #[.int .i64 (am 1 x.m 1024), .int .i64 (am 1 x.b 16777216), .slice ax l.length cap, .int .i64 (x.c 0), .int .i64 (x.c 1), .int .i64 (x.c 2), .int .i64 (x.c 3), .int .i64 (x.c 4), .int .i64 (x.c 5)] rfl).later (W' := ((w.alloc (.cells #[.int .i64 (am 1 x.m 1024), .int .i64 (am 1 x.b 16777216), .slice ax l.length cap, .int .i64 (x.c 0), .int .i64 (x.c 1), .int .i64 (x.c 2), .int .i64 (x.c 3), .int .i64 (x.c 4), .int .i64 (x.c 5)] 34)).alloc (.cells #[.int .i64 kd, .int .i64 wy, .int .i64 pt, .int .i64 ix, .int .i64 bt, .int .u32 (mk : Int), .string d] 40))) ((Below.refl _ _).alloc (Nat.le_refl _) _)).later (W' := (((w.alloc (.cells #[.int .i64 (am 1 x.m 1024), .int .i64 (am 1 x.b 16777216), .slice ax l.length cap, .int .i64 (x.c 0), .int .i64 (x.c 1), .int .i64 (x.c 2), .int .i64 (x.c 3), .int .i64 (x.c 4), .int .i64 (x.c 5)] 34)).alloc (.cells #[.int .i64 kd, .int .i64 wy, .int .i64 pt, .int .i64 ix, .int .i64 bt, .int .u32 (mk : Int), .string d] 40)).alloc (.cells #[.int .i64 0, .int .i64 0, .slice none 0 0, .int .i64 0, .int .i64 0, .int .i64 0, .int .i64 0, .int .i64 0, .int .i64 0] 34))) ((Below.refl _ _).alloc (Nat.le_refl _) _)
  have hX1 := (atQ_new 40 (w.alloc (.cells #[.int .i64 (am 1 x.m 1024), .int .i64 (am 1 x.b 16777216), .slice ax l.length cap, .int .i64 (x.c 0), .int .i64 (x.c 1), .int .i64 (x.c 2), .int .i64 (x.c 3), .int .i64 (x.c 4), .int .i64 (x.c 5)] 34)) (w.heap.size + 1) #[.int .i64 kd, .int .i64 wy, .int .i64 pt, .int .i64 ix, .int .i64 bt, .int .u32 (mk : Int), .string d] (by simp)).later (W' := (((w.alloc (.cells #[.int .i64 (am 1 x.m 1024), .int .i64 (am 1 x.b 16777216), .slice ax l.length cap, .int .i64 (x.c 0), .int .i64 (x.c 1), .int .i64 (x.c 2), .int .i64 (x.c 3), .int .i64 (x.c 4), .int .i64 (x.c 5)] 34)).alloc (.cells #[.int .i64 kd, .int .i64 wy, .int .i64 pt, .int .i64 ix, .int .i64 bt, .int .u32 (mk : Int), .string d] 40)).alloc (.cells #[.int .i64 0, .int .i64 0, .slice none 0 0, .int .i64 0, .int .i64 0, .int .i64 0, .int .i64 0, .int .i64 0, .int .i64 0] 34))) ((Below.refl _ _).alloc (Nat.le_refl _) _)
  have hX2 := atQ_new 34 ((w.alloc (.cells #[.int .i64 (am 1 x.m 1024), .int .i64 (am 1 x.b 16777216), .slice ax l.length cap, .int .i64 (x.c 0), .int .i64 (x.c 1), .int .i64 (x.c 2), .int .i64 (x.c 3), .int .i64 (x.c 4), .int .i64 (x.c 5)] 34)).alloc (.cells #[.int .i64 kd, .int .i64 wy, .int .i64 pt, .int .i64 ix, .int .i64 bt, .int .u32 (mk : Int), .string d] 40)) (w.heap.size + 1 + 1) #[.int .i64 0, .int .i64 0, .slice none 0 0, .int .i64 0, .int .i64 0, .int .i64 0, .int .i64 0, .int .i64 0, .int .i64 0] (by simp)
  have hb : Below w.heap.size w (((w.alloc (.cells #[.int .i64 (am 1 x.m 1024), .int .i64 (am 1 x.b 16777216), .slice ax l.length cap, .int .i64 (x.c 0), .int .i64 (x.c 1), .int .i64 (x.c 2), .int .i64 (x.c 3), .int .i64 (x.c 4), .int .i64 (x.c 5)] 34)).alloc (.cells #[.int .i64 kd, .int .i64 wy, .int .i64 pt, .int .i64 ix, .int .i64 bt, .int .u32 (mk : Int), .string d] 40)).alloc (.cells #[.int .i64 0, .int .i64 0, .slice none 0 0, .int .i64 0, .int .i64 0, .int .i64 0, .int .i64 0, .int .i64 0, .int .i64 0] 34)) := (((Below.refl _ _).alloc (Nat.le_refl _) _).alloc (by simp) _).alloc (by simp; omega) _
  go_enter Try.func9, Try.ntmps9
  go_upto_region 1 with fail
  generalize (((w.alloc (.cells #[.int .i64 (am 1 x.m 1024), .int .i64 (am 1 x.b 16777216), .slice ax l.length cap, .int .i64 (x.c 0), .int .i64 (x.c 1), .int .i64 (x.c 2), .int .i64 (x.c 3), .int .i64 (x.c 4), .int .i64 (x.c 5)] 34)).alloc (.cells #[.int .i64 kd, .int .i64 wy, .int .i64 pt, .int .i64 ix, .int .i64 bt, .int .u32 (mk : Int), .string d] 40)).alloc (.cells #[.int .i64 0, .int .i64 0, .slice none 0 0, .int .i64 0, .int .i64 0, .int .i64 0, .int .i64 0, .int .i64 0, .int .i64 0] 34)) = w2 at *
  have hI2 := hI.later hb
  have hL2 := hL.later hb
  have hK2 : NKeep gn x w w2 x := nKeep_below hb
  generalize hg2 : w.heap.size + 1 + 1 = g2 at *
  generalize hg1 : w.heap.size + 1 = g1 at *
  generalize hg0 : w.heap.size = g0 at *
  have hle2 : g0 ≤ g2 := by omega
  have hne12 : g1 ≠ g2 := by omega
  have HG := Lib.hid hg0
  clear hg0 hg1 hg2 hI hL hb hc wds he
  obtain ⟨_, _, _, _, _, _, _, _, _⟩ := hX0.cells9
  obtain ⟨_, _, _, _, _, _, _⟩ := hX1.cells7
  go_wp2_with fail
  refine (HCUT.out _).mono ?_
  rintro e w2' ⟨rfl, hq⟩
  subst hq
  go_wp2_with fail
  refine (HPu.out _ hL2).mono ?_
  rintro e w3 ⟨v3, rfl, hL3, hb3⟩
  obtain ⟨a3, k3, rfl⟩ := hL3.formG
  generalize hq1 : (if y = true then x.c 1 else x.c 1 + 1) = q1 at *
  have HQ1 := Lib.hid hq1
  clear hq1
  generalize hq5 : (if y = true then x.c 5 + 1 else x.c 5) = q5 at *
  have HQ5 := Lib.hid hq5
  clear hq5
  have hX1_3 := hX1.later hb3
  have hX2_3 := hX2.later hb3
  have hI3 := hI2.later hb3
  have hK3 : NKeep gn x w w3 x := hK2.trans (nKeep_below hb3)
  have hsz3 := hb3.size
  have hal : Below w3.heap.size w3 (w3.alloc (.cells #[.int .i64 (am 1 x.m 1024), .int .i64 (am 1 x.b 16777216), .slice a3 lq.length k3, .int .i64 (x.c 0), .int .i64 (q1), .int .i64 (x.c 2), .int .i64 (x.c 3), .int .i64 (x.c 4), .int .i64 (q5)] 34)) := (Below.refl _ _).alloc (Nat.le_refl _) _
  have hY := atQ_new 34 w3 w3.heap.size #[.int .i64 (am 1 x.m 1024), .int .i64 (am 1 x.b 16777216), .slice a3 lq.length k3, .int .i64 (x.c 0), .int .i64 (q1), .int .i64 (x.c 2), .int .i64 (x.c 3), .int .i64 (x.c 4), .int .i64 (q5)] rfl
  have hX1_4 := hX1_3.later hal
  have hX2_4 := hX2_3.later hal
  have hI4 := hI3.later hal
  have hL4 := hL3.later hal
  have hK4 : NKeep gn x w (w3.alloc (.cells #[.int .i64 (am 1 x.m 1024), .int .i64 (am 1 x.b 16777216), .slice a3 lq.length k3, .int .i64 (x.c 0), .int .i64 (q1), .int .i64 (x.c 2), .int .i64 (x.c 3), .int .i64 (x.c 4), .int .i64 (q5)] 34)) x := hK3.trans (nKeep_below hal)
  have hne23 : w3.heap.size ≠ g2 := by have := hX2_3.lt; omega
  clear hX0 hX1 hX2 hI2 hK2 hL2 hL3 hX1_3 hX2_3 hI3 hK3 hb3 HPu
  go_upto_region 20 with fail
  generalize (w3.alloc (.cells #[.int .i64 (am 1 x.m 1024), .int .i64 (am 1 x.b 16777216), .slice a3 lq.length k3, .int .i64 (x.c 0), .int .i64 (q1), .int .i64 (x.c 2), .int .i64 (x.c 3), .int .i64 (x.c 4), .int .i64 (q5)] 34)) = w4 at *
  generalize w3.heap.size = g3 at *
  have hX1d := hX1_4.drew
  have hX2d := hX2_4.drew
  have hYd := hY.drew
  have hId := hI4.drew
  have hLd := hL4.later (Below.refl _ _).drew
  have hK4d : NKeep gn x w w4.drew x := ⟨hK4.size, hK4.block, hK4.foot, hK4.env.trans (sameE_below (Below.refl 0 w4).drew)⟩
  clear hX1_4 hX2_4 hY hI4 hL4 hK4
  have hSd := And.intro hYd.cells9 hX1d.cells7
  refine wp_region_noPanic ?_
  refine ordM_begin (fun W : World => (W.cell? ⟨g3, 0, none⟩ = some (.int .i64 (am 1 x.m 1024)) ∧ W.cell? ⟨g3, 1, none⟩ = some (.int .i64 (am 1 x.b 16777216)) ∧ W.cell? ⟨g3, 2, none⟩ = some (.slice a3 lq.length k3) ∧ W.cell? ⟨g3, 3, none⟩ = some (.int .i64 (x.c 0)) ∧ W.cell? ⟨g3, 4, none⟩ = some (.int .i64 (q1)) ∧ W.cell? ⟨g3, 5, none⟩ = some (.int .i64 (x.c 2)) ∧ W.cell? ⟨g3, 6, none⟩ = some (.int .i64 (x.c 3)) ∧ W.cell? ⟨g3, 7, none⟩ = some (.int .i64 (x.c 4)) ∧ W.cell? ⟨g3, 8, none⟩ = some (.int .i64 (q5))) ∧ W.cell? ⟨g1, 0, none⟩ = some (.int .i64 kd) ∧ W.cell? ⟨g1, 1, none⟩ = some (.int .i64 wy) ∧ W.cell? ⟨g1, 2, none⟩ = some (.int .i64 pt) ∧ W.cell? ⟨g1, 3, none⟩ = some (.int .i64 ix) ∧ W.cell? ⟨g1, 4, none⟩ = some (.int .i64 bt) ∧ W.cell? ⟨g1, 5, none⟩ = some (.int .u32 (mk : Int)) ∧ W.cell? ⟨g1, 6, none⟩ = some (.string d)) (fun i => false) (by kernel_rfl) hSd ?_
  generalize w4.drew = wd at *
  refine ordM_take 0 ?vq11 rfl (by kernel_rfl) (by kernel_rfl) (by kernel_rfl) (by kernel_rfl) (fun _ _ _ h => h) (by rfl) ?hq11 (by assumption) ?rq11
  case hq11 => (intro W hSw; (try dsimp only at hSw); go_simp <;> with_reducible rfl)
  (try simp only [Act.put, List.setIfInBounds_toArray, List.set_cons_zero, List.set_cons_succ])
  refine ordM_take 1 ?vq12 rfl (by kernel_rfl) (by kernel_rfl) (by kernel_rfl) (by kernel_rfl) (fun _ _ _ h => h) (by rfl) ?hq12 (by assumption) ?rq12
  case hq12 => (intro W hSw; (try dsimp only at hSw); go_simp <;> with_reducible rfl)
  (try simp only [Act.put, List.setIfInBounds_toArray, List.set_cons_zero, List.set_cons_succ])
  refine ordM_take 2 ?vq13 rfl (by kernel_rfl) (by kernel_rfl) (by kernel_rfl) (by kernel_rfl) (fun _ _ _ h => h) (by rfl) ?hq13 (by assumption) ?rq13
  case hq13 => (intro W hSw; (try dsimp only at hSw); go_simp <;> with_reducible rfl)
  (try simp only [Act.put, List.setIfInBounds_toArray, List.set_cons_zero, List.set_cons_succ])
  refine ordM_take 3 ?vq14 rfl (by kernel_rfl) (by kernel_rfl) (by kernel_rfl) (by kernel_rfl) (fun _ _ _ h => h) (by rfl) ?hq14 (by assumption) ?rq14
  case hq14 => (intro W hSw; (try dsimp only at hSw); go_simp <;> with_reducible rfl)
  (try simp only [Act.put, List.setIfInBounds_toArray, List.set_cons_zero, List.set_cons_succ])
  refine ordM_take 4 ?vq15 rfl (by kernel_rfl) (by kernel_rfl) (by kernel_rfl) (by kernel_rfl) (fun _ _ _ h => h) (by rfl) ?hq15 (by assumption) ?rq15
  case hq15 => (intro W hSw; (try dsimp only at hSw); go_simp <;> with_reducible rfl)
  (try simp only [Act.put, List.setIfInBounds_toArray, List.set_cons_zero, List.set_cons_succ])
  refine ordM_take 5 ?vq16 rfl (by kernel_rfl) (by kernel_rfl) (by kernel_rfl) (by kernel_rfl) (fun _ _ _ h => h) (by rfl) ?hq16 (by assumption) ?rq16
  case hq16 => (intro W hSw; (try dsimp only at hSw); go_simp <;> with_reducible rfl)
  (try simp only [Act.put, List.setIfInBounds_toArray, List.set_cons_zero, List.set_cons_succ])
  refine ordM_take 6 ?vq17 rfl (by kernel_rfl) (by kernel_rfl) (by kernel_rfl) (by kernel_rfl) (fun _ _ _ h => h) (by rfl) ?hq17 (by assumption) ?rq17
  case hq17 => (intro W hSw; (try dsimp only at hSw); go_simp <;> with_reducible rfl)
  (try simp only [Act.put, List.setIfInBounds_toArray, List.set_cons_zero, List.set_cons_succ])
  refine ordM_take 8 ?vq18 rfl (by kernel_rfl) (by kernel_rfl) (by kernel_rfl) (by kernel_rfl) (fun _ _ _ h => h) (by rfl) ?hq18 (by assumption) ?rq18
  case hq18 => (intro W hSw; (try dsimp only at hSw); go_simp <;> with_reducible rfl)
  (try simp only [Act.put, List.setIfInBounds_toArray, List.set_cons_zero, List.set_cons_succ])
  refine ordM_ready [7] (by kernel_rfl) (by simp) ?_
  refine AllReadyM.cons rfl (fun K hK => ?_) AllReadyM.nil
  go_simp
  go_at_call 18
  refine (HPP.out _ hId).mono ?_
  rintro e w5 ⟨r', x', rfl, hN, hI5, hK5⟩
  obtain ⟨hr, hE5, hlim, hcc⟩ := HSI.out _ _ hN
  subst hr
  rw [HLQ.out] at hE5
  have HE5 := Lib.hid hE5
  clear hE5 hN
  have hY5 := hYd.nkeep hId hK5 (by decide) (by decide)
  have hX1_5 := hX1d.nkeep hId hK5 (by decide) (by decide)
  have hX2_5 := hX2d.nkeep hId hK5 (by decide) (by decide)
  have hL5 := hLd.nkeep hId hK5 (by decide) (by decide)
  have hS5 := And.intro hY5.cells9 hX1_5.cells7
  (try go_wp2_with fail)
  refine hK.out _ _ (fun _ => hS5) ?_
  clear hK K
  (try simp only [Act.put, List.setIfInBounds_toArray, List.set_cons_zero, List.set_cons_succ])
  refine ordM_take 9 ?vq19 rfl (by kernel_rfl) (by kernel_rfl) (by kernel_rfl) (by kernel_rfl) (fun _ _ _ h => h) (by rfl) ?hq19 (by assumption) ?rq19
  case hq19 => (intro W hSw; (try dsimp only at hSw); go_simp <;> with_reducible rfl)
  (try simp only [Act.put, List.setIfInBounds_toArray, List.set_cons_zero, List.set_cons_succ])
  (try simp only [beq_self_eq_true])
  have ho := put9_only w5 g2 (.int .i64 (am 1 x.m 1024)) (.int .i64 (am 1 x.b 16777216)) (.slice a3 lq.length k3) (.int .i64 (x.c 0)) (.int .i64 (q1)) (.int .i64 (x.c 2)) (.int .i64 (x.c 3)) (.int .i64 (x.c 4)) (.int .i64 (q5))
  have hZ := atQ9_put hX2_5 (.int .i64 (am 1 x.m 1024)) (.int .i64 (am 1 x.b 16777216)) (.slice a3 lq.length k3) (.int .i64 (x.c 0)) (.int .i64 (q1)) (.int .i64 (x.c 2)) (.int .i64 (x.c 3)) (.int .i64 (x.c 4)) (.int .i64 (q5))
  have HI8 := Lib.hid (hI5.only hX2_5 ho (by decide) (by decide))
  have HK8 := Lib.hid ((hK4d.trans hK5).onlyNew (by rw [HG.out]; exact hle2) ho)
  have HL8 := Lib.hid (hL5.keep (W' := (((((((((w5.setCell ⟨g2, 0, none⟩ (.int .i64 (am 1 x.m 1024))).setCell ⟨g2, 1, none⟩ (.int .i64 (am 1 x.b 16777216))).setCell ⟨g2, 2, none⟩ (.slice a3 lq.length k3)).setCell ⟨g2, 3, none⟩ (.int .i64 (x.c 0))).setCell ⟨g2, 4, none⟩ (.int .i64 (q1))).setCell ⟨g2, 5, none⟩ (.int .i64 (x.c 2))).setCell ⟨g2, 6, none⟩ (.int .i64 (x.c 3))).setCell ⟨g2, 7, none⟩ (.int .i64 (x.c 4))).setCell ⟨g2, 8, none⟩ (.int .i64 (q5)))) (by rw [ho.size]; exact Nat.le_refl _) (fun k cs hk hc => ho.block k (fun e' => by
    subst e'
    exact blkQ_ne (T := 84) (T' := 34) hc hX2_5 (by decide) rfl)))
  have hY8 := hY5.only hne23 ho
  have hX18 := hX1_5.only hne12 ho
  have hS8 := And.intro hY8.cells9 hX18.cells7
  obtain ⟨d0, d1, d2, d3, d4, d5, d6, d7, d8⟩ := hZ.cells9
  obtain ⟨_, _, _, _, _, _, _, _, _⟩ := hX2_5.cells9
  obtain ⟨_, _, _, _, _, _, _, _, _⟩ := hX2_5.frees9
  refine ordM_ready [10] (by kernel_rfl) (by simp) ?_
  refine AllReadyM.cons rfl (fun K hK => ?_) AllReadyM.nil
  go_simp
  refine hK.out _ _ (fun _ => hS8) ?_
  clear hK K
  (try simp only [Act.put, List.setIfInBounds_toArray, List.set_cons_zero, List.set_cons_succ])
  refine ordM_take 11 ?vq20 rfl (by kernel_rfl) (by kernel_rfl) (by kernel_rfl) (by kernel_rfl) (fun _ _ _ h => h) (by rfl) ?hq20 (by assumption) ?rq20
  case hq20 => (intro W hSw; (try dsimp only at hSw); go_simp <;> with_reducible rfl)
  (try simp only [Act.put, List.setIfInBounds_toArray, List.set_cons_zero, List.set_cons_succ])
  refine ordM_done (by kernel_rfl) ?_ _
  refine NoPanic.normal ?_
  clear ho hZ hY8 hX18 hS8 hS5 hY5 hX1_5 hX2_5 hL5 hSd hX1d hX2d hYd hId hLd
  repeat (first | go_skip | go_guarded | go_step | go_upon | go_back)
  have hx0 : x'.c 0 = x.c 0 := by rw [hcc]; cases r' <;> simp [bump]
  have hx1 : x'.c 1 = q1 := by rw [← HQ1.out, hcc]; cases r' <;> simp [bump]
  have hx2 : x'.c 2 = x.c 2 := by rw [hcc]; cases r' <;> simp [bump]
  have hx3 : x'.c 3 = x.c 3 := by rw [hcc]; cases r' <;> simp [bump]
  have hx4 : x'.c 4 = x.c 4 := by rw [hcc]; cases r' <;> simp [bump]
  have hx5 : x'.c 5 = q5 := by rw [← HQ5.out, hcc]; cases r' <;> simp [bump]
  have hct' : ∀ i, x.c i ≤ x'.c i ∧ x'.c i ≤ x.c i + 1 := fun i => by
    rw [hcc]
    unfold bump
    repeat' split
    all_goals omega
  refine bodyPost_ret (v := .tuple #[.agg #[.int .i64 (am 1 x.m 1024), .int .i64 (am 1 x.b 16777216), .slice a3 lq.length k3, .int .i64 (x.c 0), .int .i64 (q1), .int .i64 (x.c 2), .int .i64 (x.c 3), .int .i64 (x.c 4), .int .i64 (q5)], .bool true]) (by simp [results, Try.results9, go_sem, d0, d1, d2, d3, d4, d5, d6, d7, d8]) rfl ⟨x', .slice a3 lq.length k3, lq, by rw [hx0, hx1, hx2, hx3, hx4, hx5], ⟨HI8.out, HE5.out, HL8.out, HK8.out, hlim, HLEN.out, hct'⟩⟩
end Go.Proofs.Ytbmbomojnljccaa
