/- net: the law's do: Take. -/
import Derived.Test.YtbmbomojnljccaaNeZb
import Derived.Test.YtbmbomojnljccaaOrdM
namespace Go.Proofs.Ytbmbomojnljccaa
open Go.RowKit Go.Maps
set_option linter.unusedVariables false
set_option linter.unusedSimpArgs false
set_option maxRecDepth 100000 in
set_option maxHeartbeats 12800000 in
theorem neDo1 {w : World} {base gn n : Nat} {x : NE} {vx : Value} {l : List OD} (hI : NIn w base gn n x) (he : NeEq x l) (hL : OwnE w 0 84 3 vx l.length (odV l)) (hn : n ≤ 65535) (hl : l.length ≤ 65535) (hc : ∀ i, 0 ≤ x.c i ∧ x.c i ≤ 1099511627776) (wy pt ix bt : Int) (mk : Nat) (hmk : mk < 4294967296) (d : ByteArray) (hwf : wf2 wy pt) (wds : d.size ≤ 9223372036854775807) :
    Calls Try.prog 9 #[.pointer (some ⟨gn, 0, none⟩), neRv (am 1 x.m 1024) (am 1 x.b 16777216) vx (x.c 0) (x.c 1) (x.c 2) (x.c 3) (x.c 4) (x.c 5), .agg #[.int .i64 1, .int .i64 wy, .int .i64 pt, .int .i64 ix, .int .i64 bt, .int .u32 (mk : Int), .string d]] w fun e w' => ∃ (x' : NE) (v' : Value) (l' : List OD), e = .returned (.tuple #[neRv (am 1 x.m 1024) (am 1 x.b 16777216) v' (x'.c 0) (x'.c 1) (x'.c 2) (x'.c 3) (x'.c 4) (x'.c 5), .bool true]) ∧ NeDone w w' base gn n x x' v' l l' := by
  obtain ⟨ax, cap, rfl⟩ := hL.formG
  have hcs := nm_cutB d 40
  have HCUT := Lib.hid (fun W => cut_any d 40 W wds (by omega))
  generalize cutB d 40 = s at hcs HCUT
  have HPu := Lib.hid (fun W (hW : OwnE W 0 84 3 (.slice ax l.length cap) l.length (odV l)) => refNeTake_any (am 1 x.m 1024) (am 1 x.b 16777216) (x.c 0) (x.c 1) (x.c 2) (x.c 3) (x.c 4) (x.c 5) wy pt ix hW hl (hc 2))
  have HPP := Lib.hid (fun W (hQ : NIn W base gn n x) => neTake_any hQ hwf ix (by omega) hc)
  have HSI := Lib.hid (fun (r r' : Option ByteArray) (x' : NE) (l' : List OD) (h : NeEnd x wy pt ix 2 r x') (hr : NeCut l wy pt ix r' l') => h.sim hr he)
  unfold neRv at HPu ⊢
  have HCC := Lib.hid hc
  have hX0 := ((atQ_new 34 w w.heap.size #[.int .i64 (am 1 x.m 1024), .int .i64 (am 1 x.b 16777216), .slice ax l.length cap, .int .i64 (x.c 0), .int .i64 (x.c 1), .int .i64 (x.c 2), .int .i64 (x.c 3), .int .i64 (x.c 4), .int .i64 (x.c 5)] rfl).later (W' := ((w.alloc (.cells #[.int .i64 (am 1 x.m 1024), .int .i64 (am 1 x.b 16777216), .slice ax l.length cap, .int .i64 (x.c 0), .int .i64 (x.c 1), .int .i64 (x.c 2), .int .i64 (x.c 3), .int .i64 (x.c 4), .int .i64 (x.c 5)] 34)).alloc (.cells #[.int .i64 1, .int .i64 wy, .int .i64 pt, .int .i64 ix, .int .i64 bt, .int .u32 (mk : Int), .string d] 40))) ((Below.refl _ _).alloc (Nat.le_refl _) _)).later (W' := (((w.alloc (.cells #[.int .i64 (am 1 x.m 1024), .int .i64 (am 1 x.b 16777216), .slice ax l.length cap, .int .i64 (x.c 0), .int .i64 (x.c 1), .int .i64 (x.c 2), .int .i64 (x.c 3), .int .i64 (x.c 4), .int .i64 (x.c 5)] 34)).alloc (.cells #[.int .i64 1, .int .i64 wy, .int .i64 pt, .int .i64 ix, .int .i64 bt, .int .u32 (mk : Int), .string d] 40)).alloc (.cells #[.int .i64 0, .int .i64 0, .slice none 0 0, .int .i64 0, .int .i64 0, .int .i64 0, .int .i64 0, .int .i64 0, .int .i64 0] 34))) ((Below.refl _ _).alloc (Nat.le_refl _) _)
  have hX1 := (atQ_new 40 (w.alloc (.cells #[.int .i64 (am 1 x.m 1024), .int .i64 (am 1 x.b 16777216), .slice ax l.length cap, .int .i64 (x.c 0), .int .i64 (x.c 1), .int .i64 (x.c 2), .int .i64 (x.c 3), .int .i64 (x.c 4), .int .i64 (x.c 5)] 34)) (w.heap.size + 1) #[.int .i64 1, .int .i64 wy, .int .i64 pt, .int .i64 ix, .int .i64 bt, .int .u32 (mk : Int), .string d] (by simp)).later (W' := (((w.alloc (.cells #[.int .i64 (am 1 x.m 1024), .int .i64 (am 1 x.b 16777216), .slice ax l.length cap, .int .i64 (x.c 0), .int .i64 (x.c 1), .int .i64 (x.c 2), .int .i64 (x.c 3), .int .i64 (x.c 4), .int .i64 (x.c 5)] 34)).alloc (.cells #[.int .i64 1, .int .i64 wy, .int .i64 pt, .int .i64 ix, .int .i64 bt, .int .u32 (mk : Int), .string d] 40)).alloc (.cells #[.int .i64 0, .int .i64 0, .slice none 0 0, .int .i64 0, .int .i64 0, .int .i64 0, .int .i64 0, .int .i64 0, .int .i64 0] 34))) ((Below.refl _ _).alloc (Nat.le_refl _) _)
  have hX2 := atQ_new 34 ((w.alloc (.cells #[.int .i64 (am 1 x.m 1024), .int .i64 (am 1 x.b 16777216), .slice ax l.length cap, .int .i64 (x.c 0), .int .i64 (x.c 1), .int .i64 (x.c 2), .int .i64 (x.c 3), .int .i64 (x.c 4), .int .i64 (x.c 5)] 34)).alloc (.cells #[.int .i64 1, .int .i64 wy, .int .i64 pt, .int .i64 ix, .int .i64 bt, .int .u32 (mk : Int), .string d] 40)) (w.heap.size + 1 + 1) #[.int .i64 0, .int .i64 0, .slice none 0 0, .int .i64 0, .int .i64 0, .int .i64 0, .int .i64 0, .int .i64 0, .int .i64 0] (by simp)
  have hb : Below w.heap.size w (((w.alloc (.cells #[.int .i64 (am 1 x.m 1024), .int .i64 (am 1 x.b 16777216), .slice ax l.length cap, .int .i64 (x.c 0), .int .i64 (x.c 1), .int .i64 (x.c 2), .int .i64 (x.c 3), .int .i64 (x.c 4), .int .i64 (x.c 5)] 34)).alloc (.cells #[.int .i64 1, .int .i64 wy, .int .i64 pt, .int .i64 ix, .int .i64 bt, .int .u32 (mk : Int), .string d] 40)).alloc (.cells #[.int .i64 0, .int .i64 0, .slice none 0 0, .int .i64 0, .int .i64 0, .int .i64 0, .int .i64 0, .int .i64 0, .int .i64 0] 34)) := (((Below.refl _ _).alloc (Nat.le_refl _) _).alloc (by simp) _).alloc (by simp; omega) _
  go_enter Try.func9, Try.ntmps9
  go_upto_region 1 with fail
  generalize (((w.alloc (.cells #[.int .i64 (am 1 x.m 1024), .int .i64 (am 1 x.b 16777216), .slice ax l.length cap, .int .i64 (x.c 0), .int .i64 (x.c 1), .int .i64 (x.c 2), .int .i64 (x.c 3), .int .i64 (x.c 4), .int .i64 (x.c 5)] 34)).alloc (.cells #[.int .i64 1, .int .i64 wy, .int .i64 pt, .int .i64 ix, .int .i64 bt, .int .u32 (mk : Int), .string d] 40)).alloc (.cells #[.int .i64 0, .int .i64 0, .slice none 0 0, .int .i64 0, .int .i64 0, .int .i64 0, .int .i64 0, .int .i64 0, .int .i64 0] 34)) = w2 at *
  have hI2 := hI.later hb
  have hL2 := hL.later hb
  have hK2 : NKeep gn x w w2 x := nKeep_below hb
  generalize hg2 : w.heap.size + 1 + 1 = g2 at *
  generalize hg1 : w.heap.size + 1 = g1 at *
  generalize hg0 : w.heap.size = g0 at *
  have hle2 : g0 ≤ g2 := by omega
  have hne12 : g1 ≠ g2 := by omega
  have HG := Lib.hid hg0
  clear hg0 hg1 hg2 hI hL hb hc wds he
  obtain ⟨_, _, _, _, _, _, _, _, _⟩ := hX0.cells9
  obtain ⟨_, _, _, _, _, _, _⟩ := hX1.cells7
  go_wp2_with fail
  refine (HCUT.out _).mono ?_
  rintro e w2' ⟨rfl, hq⟩
  subst hq
  go_wp2_with fail
  refine (HPu.out _ hL2).mono ?_
  rintro e w3 ⟨r, lq, v3, rfl, hct, hL3, hb3⟩
  have HCT := Lib.hid hct
  have HLEN : Hid (lq.length ≤ l.length + 1) := Lib.hid (Nat.le_succ_of_le hct.len)
  clear hct
  obtain ⟨a3, k3, rfl⟩ := hL3.formG
  generalize hq2 : (if r.isSome = true then x.c 2 + 1 else x.c 2) = q2 at *
  have HQ2 := Lib.hid hq2
  clear hq2
  have hX1_3 := hX1.later hb3
  have hX2_3 := hX2.later hb3
  have hI3 := hI2.later hb3
  have hK3 : NKeep gn x w w3 x := hK2.trans (nKeep_below hb3)
  have hsz3 := hb3.size
  have hal : Below w3.heap.size w3 (w3.alloc (.cells #[.int .i64 (am 1 x.m 1024), .int .i64 (am 1 x.b 16777216), .slice a3 lq.length k3, .int .i64 (x.c 0), .int .i64 (x.c 1), .int .i64 (q2), .int .i64 (x.c 3), .int .i64 (x.c 4), .int .i64 (x.c 5)] 34)) := (Below.refl _ _).alloc (Nat.le_refl _) _
  have hY := atQ_new 34 w3 w3.heap.size #[.int .i64 (am 1 x.m 1024), .int .i64 (am 1 x.b 16777216), .slice a3 lq.length k3, .int .i64 (x.c 0), .int .i64 (x.c 1), .int .i64 (q2), .int .i64 (x.c 3), .int .i64 (x.c 4), .int .i64 (x.c 5)] rfl
  have hX1_4 := hX1_3.later hal
  have hX2_4 := hX2_3.later hal
  have hI4 := hI3.later hal
  have hL4 := hL3.later hal
  have hK4 : NKeep gn x w (w3.alloc (.cells #[.int .i64 (am 1 x.m 1024), .int .i64 (am 1 x.b 16777216), .slice a3 lq.length k3, .int .i64 (x.c 0), .int .i64 (x.c 1), .int .i64 (q2), .int .i64 (x.c 3), .int .i64 (x.c 4), .int .i64 (x.c 5)] 34)) x := hK3.trans (nKeep_below hal)
  have hne23 : w3.heap.size ≠ g2 := by have := hX2_3.lt; omega
  clear hX0 hX1 hX2 hI2 hK2 hL2 hL3 hX1_3 hX2_3 hI3 hK3 hb3 HPu
  go_upto_region 8 with fail
  generalize (w3.alloc (.cells #[.int .i64 (am 1 x.m 1024), .int .i64 (am 1 x.b 16777216), .slice a3 lq.length k3, .int .i64 (x.c 0), .int .i64 (x.c 1), .int .i64 (q2), .int .i64 (x.c 3), .int .i64 (x.c 4), .int .i64 (x.c 5)] 34)) = w4 at *
  generalize w3.heap.size = g3 at *
  obtain ⟨_, _, _, _, _, _, _⟩ := hX1_4.cells7
  go_wp2_with fail
  refine (HPP.out _ hI4).mono ?_
  rintro e w5 ⟨r', x', rfl, hN, hI5, hK5⟩
  obtain ⟨hr, hE5, hlim, hcc⟩ := HSI.out _ _ _ _ hN HCT.out
  subst hr
  have HE5 := Lib.hid hE5
  clear hE5 hN
  have hY5 := hY.nkeep hI4 hK5 (by decide) (by decide)
  have hX1_5 := hX1_4.nkeep hI4 hK5 (by decide) (by decide)
  have hX2_5 := hX2_4.nkeep hI4 hK5 (by decide) (by decide)
  have hL5 := hL4.nkeep hI4 hK5 (by decide) (by decide)
  have hK4d := hK4
  clear hX1_4 hX2_4 hY hI4 hL4 hK4
  go_upto_region 9 with fail
  obtain ⟨_, _, _, _, _, _, _, _, _⟩ := hY5.cells9
  have ho := put9_only w5 g2 (.int .i64 (am 1 x.m 1024)) (.int .i64 (am 1 x.b 16777216)) (.slice a3 lq.length k3) (.int .i64 (x.c 0)) (.int .i64 (x.c 1)) (.int .i64 (q2)) (.int .i64 (x.c 3)) (.int .i64 (x.c 4)) (.int .i64 (x.c 5))
  have hZ := atQ9_put hX2_5 (.int .i64 (am 1 x.m 1024)) (.int .i64 (am 1 x.b 16777216)) (.slice a3 lq.length k3) (.int .i64 (x.c 0)) (.int .i64 (x.c 1)) (.int .i64 (q2)) (.int .i64 (x.c 3)) (.int .i64 (x.c 4)) (.int .i64 (x.c 5))
  have HI8 := Lib.hid (hI5.only hX2_5 ho (by decide) (by decide))
  have HK8 := Lib.hid ((hK4d.trans hK5).onlyNew (by rw [HG.out]; exact hle2) ho)
  have HL8 := Lib.hid (hL5.keep (W' := (((((((((w5.setCell ⟨g2, 0, none⟩ (.int .i64 (am 1 x.m 1024))).setCell ⟨g2, 1, none⟩ (.int .i64 (am 1 x.b 16777216))).setCell ⟨g2, 2, none⟩ (.slice a3 lq.length k3)).setCell ⟨g2, 3, none⟩ (.int .i64 (x.c 0))).setCell ⟨g2, 4, none⟩ (.int .i64 (x.c 1))).setCell ⟨g2, 5, none⟩ (.int .i64 (q2))).setCell ⟨g2, 6, none⟩ (.int .i64 (x.c 3))).setCell ⟨g2, 7, none⟩ (.int .i64 (x.c 4))).setCell ⟨g2, 8, none⟩ (.int .i64 (x.c 5)))) (by rw [ho.size]; exact Nat.le_refl _) (fun k cs hk hc => ho.block k (fun e' => by
    subst e'
    exact blkQ_ne (T := 84) (T' := 34) hc hX2_5 (by decide) rfl)))
  have hY8 := hY5.only hne23 ho
  have hX18 := hX1_5.only hne12 ho
  have hS8 := And.intro hY8.cells9 hX18.cells7
  obtain ⟨d0, d1, d2, d3, d4, d5, d6, d7, d8⟩ := hZ.cells9
  obtain ⟨_, _, _, _, _, _, _, _, _⟩ := hX2_5.cells9
  obtain ⟨_, _, _, _, _, _, _, _, _⟩ := hX2_5.frees9
  clear ho hZ hY8 hX18 hS8 hY5 hX1_5 hX2_5 hL5
  generalize hrs : r'.getD (⟨#[]⟩ : ByteArray) = rs at *
  have hse : (rs.toList == rs.toList) = true := beq_self_eq_true _
  clear hrs
  repeat (first | go_skip | go_guarded | go_step | go_upon | go_back)
  have hx0 : x'.c 0 = x.c 0 := by rw [hcc]; cases r' <;> simp [bump]
  have hx1 : x'.c 1 = x.c 1 := by rw [hcc]; cases r' <;> simp [bump]
  have hx2 : x'.c 2 = q2 := by rw [← HQ2.out, hcc]; cases r' <;> simp [bump]
  have hx3 : x'.c 3 = x.c 3 := by rw [hcc]; cases r' <;> simp [bump]
  have hx4 : x'.c 4 = x.c 4 := by rw [hcc]; cases r' <;> simp [bump]
  have hx5 : x'.c 5 = x.c 5 := by rw [hcc]; cases r' <;> simp [bump]
  have hct' : ∀ i, x.c i ≤ x'.c i ∧ x'.c i ≤ x.c i + 1 := fun i => by
    rw [hcc, bump_if]
    split <;> omega
  refine bodyPost_ret (v := .tuple #[.agg #[.int .i64 (am 1 x.m 1024), .int .i64 (am 1 x.b 16777216), .slice a3 lq.length k3, .int .i64 (x.c 0), .int .i64 (x.c 1), .int .i64 (q2), .int .i64 (x.c 3), .int .i64 (x.c 4), .int .i64 (x.c 5)], .bool true]) (by simp [results, Try.results9, go_sem, d0, d1, d2, d3, d4, d5, d6, d7, d8]) rfl ⟨x', .slice a3 lq.length k3, lq, by rw [hx0, hx1, hx2, hx3, hx4, hx5], ⟨HI8.out, HE5.out, HL8.out, HK8.out, hlim, HLEN.out, hct'⟩⟩
/-- Any call. -/
theorem neDo_any {w : World} {base gn n : Nat} {x : NE} {vx : Value} {l : List OD} (hI : NIn w base gn n x) (he : NeEq x l) (hL : OwnE w 0 84 3 vx l.length (odV l)) (hn : n ≤ 65535) (hl : l.length ≤ 65535) (hc : ∀ i, 0 ≤ x.c i ∧ x.c i ≤ 1099511627776) (kd wy pt ix bt : Int) (mk : Nat) (hmk : mk < 4294967296) (d : ByteArray) (hwf : wf2 wy pt) (wds : d.size ≤ 9223372036854775807) :
    Calls Try.prog 9 #[.pointer (some ⟨gn, 0, none⟩), neRv (am 1 x.m 1024) (am 1 x.b 16777216) vx (x.c 0) (x.c 1) (x.c 2) (x.c 3) (x.c 4) (x.c 5), .agg #[.int .i64 kd, .int .i64 wy, .int .i64 pt, .int .i64 ix, .int .i64 bt, .int .u32 (mk : Int), .string d]] w fun e w' => ∃ (x' : NE) (v' : Value) (l' : List OD), e = .returned (.tuple #[neRv (am 1 x.m 1024) (am 1 x.b 16777216) v' (x'.c 0) (x'.c 1) (x'.c 2) (x'.c 3) (x'.c 4) (x'.c 5), .bool true]) ∧ NeDone w w' base gn n x x' v' l l' := by
  by_cases h0 : kd = 0
  · subst h0; exact neDo0 hI he hL hn hl hc wy pt ix bt mk hmk d hwf wds
  by_cases h1 : kd = 1
  · subst h1; exact neDo1 hI he hL hn hl hc wy pt ix bt mk hmk d hwf wds
  by_cases h2 : kd = 2
  · subst h2; exact neDo2 hI he hL hn hl hc wy pt ix bt mk hmk d hwf wds
  by_cases h3 : kd = 3
  · subst h3; exact neDo3 hI he hL hn hl hc wy pt ix bt mk hmk d hwf wds
  by_cases h4 : kd = 4
  · subst h4; exact neDo4 hI he hL hn hl hc wy pt ix bt mk hmk d hwf wds
  exact neDo5 hI he hL hn hl hc kd wy pt ix bt mk hmk d (by simpa using h0) (by simpa using h1) (by simpa using h2) (by simpa using h3) (by simpa using h4) hwf wds
end Go.Proofs.Ytbmbomojnljccaa
