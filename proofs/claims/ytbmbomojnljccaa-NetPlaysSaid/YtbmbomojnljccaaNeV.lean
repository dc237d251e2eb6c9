/- net: the document's Take and Lose. -/
import Derived.Test.YtbmbomojnljccaaNeU
namespace Go.Proofs.Ytbmbomojnljccaa
open Go.RowKit Go.Maps
set_option linter.unusedVariables false
set_option linter.unusedSimpArgs false
set_option maxRecDepth 100000 in
set_option maxHeartbeats 6400000 in
theorem refNeTake_any {w : World} {vl : Value} {l : List OD} {n : Nat} (m b c0 c1 c2 c3 c4 c5 a p i : Int) (hL : OwnE w 0 84 3 vl n (odV l)) (hn : n ≤ 65535) (hq : 0 ≤ c2 ∧ c2 ≤ 1099511627776) :
    Calls Try.prog 23 #[neRv m b vl c0 c1 c2 c3 c4 c5, .int .i64 a, .int .i64 p, .int .i64 i] w fun e w' => ∃ (r : Option ByteArray) (l' : List OD) (v' : Value), e = .returned (.tuple #[neRv m b v' c0 c1 (if r.isSome = true then c2 + 1 else c2) c3 c4 c5, .string (r.getD ⟨#[]⟩), .bool r.isSome]) ∧ NeCut l a p i r l' ∧ OwnE w' 0 84 3 v' l'.length (odV l') ∧ Below w.heap.size w w' := by
  unfold neRv
  obtain ⟨ax, cap, rfl⟩ := hL.formG
  have hX1 := atQ_new 34 (w.alloc (.cells #[.int .i64 m, .int .i64 b, .slice ax n cap, .int .i64 c0, .int .i64 c1, .int .i64 c2, .int .i64 c3, .int .i64 c4, .int .i64 c5] 34)) (w.heap.size + 1) #[.int .i64 0, .int .i64 0, .slice none 0 0, .int .i64 0, .int .i64 0, .int .i64 0, .int .i64 0, .int .i64 0, .int .i64 0] (by simp)
  have hX0 := (atQ_new 34 w w.heap.size #[.int .i64 m, .int .i64 b, .slice ax n cap, .int .i64 c0, .int .i64 c1, .int .i64 c2, .int .i64 c3, .int .i64 c4, .int .i64 c5] rfl).later (W' := ((w.alloc (.cells #[.int .i64 m, .int .i64 b, .slice ax n cap, .int .i64 c0, .int .i64 c1, .int .i64 c2, .int .i64 c3, .int .i64 c4, .int .i64 c5] 34)).alloc (.cells #[.int .i64 0, .int .i64 0, .slice none 0 0, .int .i64 0, .int .i64 0, .int .i64 0, .int .i64 0, .int .i64 0, .int .i64 0] 34))) ((Below.refl _ _).alloc (Nat.le_refl _) _)
  have hb : Below w.heap.size w ((w.alloc (.cells #[.int .i64 m, .int .i64 b, .slice ax n cap, .int .i64 c0, .int .i64 c1, .int .i64 c2, .int .i64 c3, .int .i64 c4, .int .i64 c5] 34)).alloc (.cells #[.int .i64 0, .int .i64 0, .slice none 0 0, .int .i64 0, .int .i64 0, .int .i64 0, .int .i64 0, .int .i64 0, .int .i64 0] 34)) := ((Below.refl _ _).alloc (Nat.le_refl _) _).alloc (by simp) _
  go_enter Try.func23, Try.ntmps23
  go_upto_region 1 with fail
  generalize ((w.alloc (.cells #[.int .i64 m, .int .i64 b, .slice ax n cap, .int .i64 c0, .int .i64 c1, .int .i64 c2, .int .i64 c3, .int .i64 c4, .int .i64 c5] 34)).alloc (.cells #[.int .i64 0, .int .i64 0, .slice none 0 0, .int .i64 0, .int .i64 0, .int .i64 0, .int .i64 0, .int .i64 0, .int .i64 0] 34)) = w2 at hX0 hX1 hb ⊢
  have hL2 := hL.later hb
  generalize hg1 : w.heap.size + 1 = g1 at *
  generalize hg0 : w.heap.size = g0 at *
  have HG := Lib.hid hg0
  have hle1 : g0 ≤ g1 := by omega
  have hsz2 : g0 ≤ w2.heap.size := Nat.le_of_lt hX0.lt
  clear hg0 hg1 hL
  obtain ⟨z0, z1, z2, z3, z4, z5, z6, z7, z8⟩ := hX0.cells9
  have HA := Lib.hid (refNeCut_any m b c0 c1 c2 c3 c4 c5 a p i hL2 hn)
  unfold neRv at HA
  go_wp2_with fail
  refine HA.out.mono ?_
  rintro e w3 ⟨r, l5, va, rfl, hct, hO, hb3⟩
  have HCT := Lib.hid hct
  clear hct
  obtain ⟨a5, k5, rfl⟩ := hO.formG
  have hX1' := hX1.later hb3
  have hb3' := hb.trans (hb3.mono hsz2)
  have hX2 := atQ_new 34 w3 w3.heap.size #[.int .i64 m, .int .i64 b, .slice a5 l5.length k5, .int .i64 c0, .int .i64 c1, .int .i64 c2, .int .i64 c3, .int .i64 c4, .int .i64 c5] rfl
  have hal : Below w3.heap.size w3 (w3.alloc (.cells #[.int .i64 m, .int .i64 b, .slice a5 l5.length k5, .int .i64 c0, .int .i64 c1, .int .i64 c2, .int .i64 c3, .int .i64 c4, .int .i64 c5] 34)) := (Below.refl _ _).alloc (Nat.le_refl _) _
  have hO4 := hO.later hal
  have hX14 := hX1'.later hal
  have hsz3 : g0 ≤ w3.heap.size := Nat.le_trans hsz2 hb3.size
  have hb4 := hb3'.trans (hal.mono hsz3)
  have hne : g1 ≠ w3.heap.size := by have := hX1'.lt; omega
  have hne' : w3.heap.size ≠ g1 := hne.symm
  clear hX0 hX1 hL2 HA hb z0 z1 z2 z3 z4 z5 z6 z7 z8 hO hX1' hb3' hal hb3
  go_upto_region 2 with fail
  generalize (w3.alloc (.cells #[.int .i64 m, .int .i64 b, .slice a5 l5.length k5, .int .i64 c0, .int .i64 c1, .int .i64 c2, .int .i64 c3, .int .i64 c4, .int .i64 c5] 34)) = w4 at *
  generalize w3.heap.size = g2 at *
  obtain ⟨_, _, _, _, _, _, _, _, _⟩ := hX2.cells9
  obtain ⟨_, _, _, _, _, _, _, _, _⟩ := hX2.frees9
  cases r with
  | none =>
    go_upto_region 4 with fail
    obtain ⟨_, _, _, _, _, _, _, _, _⟩ := hX2.cells9
    obtain ⟨_, _, _, _, _, _, _, _, _⟩ := hX14.frees9
    obtain ⟨_, _, _, _, _, _, _, _, _⟩ := hX14.cells9
    have hZ := atQ9_put hX14 (.int .i64 m) (.int .i64 b) (.slice a5 l5.length k5) (.int .i64 c0) (.int .i64 c1) (.int .i64 c2) (.int .i64 c3) (.int .i64 c4) (.int .i64 c5)
    have hbz := hb4.trans ((put9_only w4 g1 (.int .i64 m) (.int .i64 b) (.slice a5 l5.length k5) (.int .i64 c0) (.int .i64 c1) (.int .i64 c2) (.int .i64 c3) (.int .i64 c4) (.int .i64 c5)).below hle1)
    have hLz := hO4.keep (W' := (((((((((w4.setCell ⟨g1, 0, none⟩ (.int .i64 m)).setCell ⟨g1, 1, none⟩ (.int .i64 b)).setCell ⟨g1, 2, none⟩ (.slice a5 l5.length k5)).setCell ⟨g1, 3, none⟩ (.int .i64 c0)).setCell ⟨g1, 4, none⟩ (.int .i64 c1)).setCell ⟨g1, 5, none⟩ (.int .i64 c2)).setCell ⟨g1, 6, none⟩ (.int .i64 c3)).setCell ⟨g1, 7, none⟩ (.int .i64 c4)).setCell ⟨g1, 8, none⟩ (.int .i64 c5))) (by rw [(put9_only w4 g1 (.int .i64 m) (.int .i64 b) (.slice a5 l5.length k5) (.int .i64 c0) (.int .i64 c1) (.int .i64 c2) (.int .i64 c3) (.int .i64 c4) (.int .i64 c5)).size]; exact Nat.le_refl _) (fun k cs hk hc => (put9_only w4 g1 (.int .i64 m) (.int .i64 b) (.slice a5 l5.length k5) (.int .i64 c0) (.int .i64 c1) (.int .i64 c2) (.int .i64 c3) (.int .i64 c4) (.int .i64 c5)).block k (fun e' => by
      subst e'
      exact blkQ_ne (T := 84) (T' := 34) hc hX14 (by decide) rfl))
    obtain ⟨d0, d1, d2, d3, d4, d5, d6, d7, d8⟩ := hZ.cells9
    have HBZ := Lib.hid hbz
    have HLZ := Lib.hid hLz
    clear hX14 hX2 hb4 hO4 hZ hbz hLz
    repeat (first | go_skip | go_guarded | go_step | go_upon | go_back)
    refine bodyPost_ret (v := .tuple #[.agg #[.int .i64 m, .int .i64 b, .slice a5 l5.length k5, .int .i64 c0, .int .i64 c1, .int .i64 c2, .int .i64 c3, .int .i64 c4, .int .i64 c5], .string ⟨#[]⟩, .bool false]) (by simp [results, Try.results23, go_sem, d0, d1, d2, d3, d4, d5, d6, d7, d8]) rfl ⟨none, l5, _, rfl, HCT.out, HLZ.out, by rw [HG.out]; exact HBZ.out⟩
  | some s =>
    have hwr : IntKind.i64.wrap (c2 + 1) = c2 + 1 := IntWalk.i64_in _ ⟨by omega, by omega⟩
    have hX2c := atQ9_set5 hX2 (.int .i64 (c2 + 1))
    have ho := (Only.refl g2 w4).setCell 5 (.int .i64 (c2 + 1))
    have hX1c := hX14.only hne ho
    have hbc := hb4.trans (ho.below hsz3)
    have hOc := hO4.keep (W' := w4.setCell ⟨g2, 5, none⟩ (.int .i64 (c2 + 1))) (by rw [ho.size]; exact Nat.le_refl _) (fun k cs hk hc => ho.block k (fun e' => by
      subst e'
      exact blkQ_ne (T := 84) (T' := 34) hc hX2 (by decide) rfl))
    go_upto_region 4 with fail
    generalize (w4.setCell ⟨g2, 5, none⟩ (.int .i64 (c2 + 1))) = w6 at *
    clear hX2 hX14 hO4 hb4 ho
    obtain ⟨_, _, _, _, _, _, _, _, _⟩ := hX2c.cells9
    obtain ⟨_, _, _, _, _, _, _, _, _⟩ := hX1c.frees9
    obtain ⟨_, _, _, _, _, _, _, _, _⟩ := hX1c.cells9
    have hZ := atQ9_put hX1c (.int .i64 m) (.int .i64 b) (.slice a5 l5.length k5) (.int .i64 c0) (.int .i64 c1) (.int .i64 (c2 + 1)) (.int .i64 c3) (.int .i64 c4) (.int .i64 c5)
    have hbz := hbc.trans ((put9_only w6 g1 (.int .i64 m) (.int .i64 b) (.slice a5 l5.length k5) (.int .i64 c0) (.int .i64 c1) (.int .i64 (c2 + 1)) (.int .i64 c3) (.int .i64 c4) (.int .i64 c5)).below hle1)
    have hLz := hOc.keep (W' := (((((((((w6.setCell ⟨g1, 0, none⟩ (.int .i64 m)).setCell ⟨g1, 1, none⟩ (.int .i64 b)).setCell ⟨g1, 2, none⟩ (.slice a5 l5.length k5)).setCell ⟨g1, 3, none⟩ (.int .i64 c0)).setCell ⟨g1, 4, none⟩ (.int .i64 c1)).setCell ⟨g1, 5, none⟩ (.int .i64 (c2 + 1))).setCell ⟨g1, 6, none⟩ (.int .i64 c3)).setCell ⟨g1, 7, none⟩ (.int .i64 c4)).setCell ⟨g1, 8, none⟩ (.int .i64 c5))) (by rw [(put9_only w6 g1 (.int .i64 m) (.int .i64 b) (.slice a5 l5.length k5) (.int .i64 c0) (.int .i64 c1) (.int .i64 (c2 + 1)) (.int .i64 c3) (.int .i64 c4) (.int .i64 c5)).size]; exact Nat.le_refl _) (fun k cs hk hc => (put9_only w6 g1 (.int .i64 m) (.int .i64 b) (.slice a5 l5.length k5) (.int .i64 c0) (.int .i64 c1) (.int .i64 (c2 + 1)) (.int .i64 c3) (.int .i64 c4) (.int .i64 c5)).block k (fun e' => by
      subst e'
      exact blkQ_ne (T := 84) (T' := 34) hc hX1c (by decide) rfl))
    obtain ⟨d0, d1, d2, d3, d4, d5, d6, d7, d8⟩ := hZ.cells9
    have HBZ := Lib.hid hbz
    have HLZ := Lib.hid hLz
    clear hX1c hX2c hbc hOc hZ hbz hLz
    repeat (first | go_skip | go_guarded | go_step | go_upon | go_back)
    refine bodyPost_ret (v := .tuple #[.agg #[.int .i64 m, .int .i64 b, .slice a5 l5.length k5, .int .i64 c0, .int .i64 c1, .int .i64 (c2 + 1), .int .i64 c3, .int .i64 c4, .int .i64 c5], .string s, .bool true]) (by simp [results, Try.results23, go_sem, d0, d1, d2, d3, d4, d5, d6, d7, d8]) rfl ⟨some s, l5, _, rfl, HCT.out, HLZ.out, by rw [HG.out]; exact HBZ.out⟩
set_option maxRecDepth 100000 in
set_option maxHeartbeats 6400000 in
theorem refNeLose_any {w : World} {vl : Value} {l : List OD} {n : Nat} (m b c0 c1 c2 c3 c4 c5 a p i : Int) (hL : OwnE w 0 84 3 vl n (odV l)) (hn : n ≤ 65535) (hq : 0 ≤ c1 ∧ c1 ≤ 1099511627776) :
    Calls Try.prog 24 #[neRv m b vl c0 c1 c2 c3 c4 c5, .int .i64 a, .int .i64 p, .int .i64 i] w fun e w' => ∃ (r : Option ByteArray) (l' : List OD) (v' : Value), e = .returned (.tuple #[neRv m b v' c0 (if r.isSome = true then c1 + 1 else c1) c2 c3 c4 c5, .bool r.isSome]) ∧ NeCut l a p i r l' ∧ OwnE w' 0 84 3 v' l'.length (odV l') ∧ Below w.heap.size w w' := by
  unfold neRv
  obtain ⟨ax, cap, rfl⟩ := hL.formG
  have hX1 := atQ_new 34 (w.alloc (.cells #[.int .i64 m, .int .i64 b, .slice ax n cap, .int .i64 c0, .int .i64 c1, .int .i64 c2, .int .i64 c3, .int .i64 c4, .int .i64 c5] 34)) (w.heap.size + 1) #[.int .i64 0, .int .i64 0, .slice none 0 0, .int .i64 0, .int .i64 0, .int .i64 0, .int .i64 0, .int .i64 0, .int .i64 0] (by simp)
  have hX0 := (atQ_new 34 w w.heap.size #[.int .i64 m, .int .i64 b, .slice ax n cap, .int .i64 c0, .int .i64 c1, .int .i64 c2, .int .i64 c3, .int .i64 c4, .int .i64 c5] rfl).later (W' := ((w.alloc (.cells #[.int .i64 m, .int .i64 b, .slice ax n cap, .int .i64 c0, .int .i64 c1, .int .i64 c2, .int .i64 c3, .int .i64 c4, .int .i64 c5] 34)).alloc (.cells #[.int .i64 0, .int .i64 0, .slice none 0 0, .int .i64 0, .int .i64 0, .int .i64 0, .int .i64 0, .int .i64 0, .int .i64 0] 34))) ((Below.refl _ _).alloc (Nat.le_refl _) _)
  have hb : Below w.heap.size w ((w.alloc (.cells #[.int .i64 m, .int .i64 b, .slice ax n cap, .int .i64 c0, .int .i64 c1, .int .i64 c2, .int .i64 c3, .int .i64 c4, .int .i64 c5] 34)).alloc (.cells #[.int .i64 0, .int .i64 0, .slice none 0 0, .int .i64 0, .int .i64 0, .int .i64 0, .int .i64 0, .int .i64 0, .int .i64 0] 34)) := ((Below.refl _ _).alloc (Nat.le_refl _) _).alloc (by simp) _
  go_enter Try.func24, Try.ntmps24
  go_upto_region 1 with fail
  generalize ((w.alloc (.cells #[.int .i64 m, .int .i64 b, .slice ax n cap, .int .i64 c0, .int .i64 c1, .int .i64 c2, .int .i64 c3, .int .i64 c4, .int .i64 c5] 34)).alloc (.cells #[.int .i64 0, .int .i64 0, .slice none 0 0, .int .i64 0, .int .i64 0, .int .i64 0, .int .i64 0, .int .i64 0, .int .i64 0] 34)) = w2 at hX0 hX1 hb ⊢
  have hL2 := hL.later hb
  generalize hg1 : w.heap.size + 1 = g1 at *
  generalize hg0 : w.heap.size = g0 at *
  have HG := Lib.hid hg0
  have hle1 : g0 ≤ g1 := by omega
  have hsz2 : g0 ≤ w2.heap.size := Nat.le_of_lt hX0.lt
  clear hg0 hg1 hL
  obtain ⟨z0, z1, z2, z3, z4, z5, z6, z7, z8⟩ := hX0.cells9
  have HA := Lib.hid (refNeCut_any m b c0 c1 c2 c3 c4 c5 a p i hL2 hn)
  unfold neRv at HA
  go_wp2_with fail
  refine HA.out.mono ?_
  rintro e w3 ⟨r, l5, va, rfl, hct, hO, hb3⟩
  have HCT := Lib.hid hct
  clear hct
  obtain ⟨a5, k5, rfl⟩ := hO.formG
  have hX1' := hX1.later hb3
  have hb3' := hb.trans (hb3.mono hsz2)
  have hX2 := atQ_new 34 w3 w3.heap.size #[.int .i64 m, .int .i64 b, .slice a5 l5.length k5, .int .i64 c0, .int .i64 c1, .int .i64 c2, .int .i64 c3, .int .i64 c4, .int .i64 c5] rfl
  have hal : Below w3.heap.size w3 (w3.alloc (.cells #[.int .i64 m, .int .i64 b, .slice a5 l5.length k5, .int .i64 c0, .int .i64 c1, .int .i64 c2, .int .i64 c3, .int .i64 c4, .int .i64 c5] 34)) := (Below.refl _ _).alloc (Nat.le_refl _) _
  have hO4 := hO.later hal
  have hX14 := hX1'.later hal
  have hsz3 : g0 ≤ w3.heap.size := Nat.le_trans hsz2 hb3.size
  have hb4 := hb3'.trans (hal.mono hsz3)
  have hne : g1 ≠ w3.heap.size := by have := hX1'.lt; omega
  have hne' : w3.heap.size ≠ g1 := hne.symm
  clear hX0 hX1 hL2 HA hb z0 z1 z2 z3 z4 z5 z6 z7 z8 hO hX1' hb3' hal hb3
  go_upto_region 2 with fail
  generalize (w3.alloc (.cells #[.int .i64 m, .int .i64 b, .slice a5 l5.length k5, .int .i64 c0, .int .i64 c1, .int .i64 c2, .int .i64 c3, .int .i64 c4, .int .i64 c5] 34)) = w4 at *
  generalize w3.heap.size = g2 at *
  obtain ⟨_, _, _, _, _, _, _, _, _⟩ := hX2.cells9
  obtain ⟨_, _, _, _, _, _, _, _, _⟩ := hX2.frees9
  cases r with
  | none =>
    go_upto_region 4 with fail
    obtain ⟨_, _, _, _, _, _, _, _, _⟩ := hX2.cells9
    obtain ⟨_, _, _, _, _, _, _, _, _⟩ := hX14.frees9
    obtain ⟨_, _, _, _, _, _, _, _, _⟩ := hX14.cells9
    have hZ := atQ9_put hX14 (.int .i64 m) (.int .i64 b) (.slice a5 l5.length k5) (.int .i64 c0) (.int .i64 c1) (.int .i64 c2) (.int .i64 c3) (.int .i64 c4) (.int .i64 c5)
    have hbz := hb4.trans ((put9_only w4 g1 (.int .i64 m) (.int .i64 b) (.slice a5 l5.length k5) (.int .i64 c0) (.int .i64 c1) (.int .i64 c2) (.int .i64 c3) (.int .i64 c4) (.int .i64 c5)).below hle1)
    have hLz := hO4.keep (W' := (((((((((w4.setCell ⟨g1, 0, none⟩ (.int .i64 m)).setCell ⟨g1, 1, none⟩ (.int .i64 b)).setCell ⟨g1, 2, none⟩ (.slice a5 l5.length k5)).setCell ⟨g1, 3, none⟩ (.int .i64 c0)).setCell ⟨g1, 4, none⟩ (.int .i64 c1)).setCell ⟨g1, 5, none⟩ (.int .i64 c2)).setCell ⟨g1, 6, none⟩ (.int .i64 c3)).setCell ⟨g1, 7, none⟩ (.int .i64 c4)).setCell ⟨g1, 8, none⟩ (.int .i64 c5))) (by rw [(put9_only w4 g1 (.int .i64 m) (.int .i64 b) (.slice a5 l5.length k5) (.int .i64 c0) (.int .i64 c1) (.int .i64 c2) (.int .i64 c3) (.int .i64 c4) (.int .i64 c5)).size]; exact Nat.le_refl _) (fun k cs hk hc => (put9_only w4 g1 (.int .i64 m) (.int .i64 b) (.slice a5 l5.length k5) (.int .i64 c0) (.int .i64 c1) (.int .i64 c2) (.int .i64 c3) (.int .i64 c4) (.int .i64 c5)).block k (fun e' => by
      subst e'
      exact blkQ_ne (T := 84) (T' := 34) hc hX14 (by decide) rfl))
    obtain ⟨d0, d1, d2, d3, d4, d5, d6, d7, d8⟩ := hZ.cells9
    have HBZ := Lib.hid hbz
    have HLZ := Lib.hid hLz
    clear hX14 hX2 hb4 hO4 hZ hbz hLz
    repeat (first | go_skip | go_guarded | go_step | go_upon | go_back)
    refine bodyPost_ret (v := .tuple #[.agg #[.int .i64 m, .int .i64 b, .slice a5 l5.length k5, .int .i64 c0, .int .i64 c1, .int .i64 c2, .int .i64 c3, .int .i64 c4, .int .i64 c5], .bool false]) (by simp [results, Try.results24, go_sem, d0, d1, d2, d3, d4, d5, d6, d7, d8]) rfl ⟨none, l5, _, rfl, HCT.out, HLZ.out, by rw [HG.out]; exact HBZ.out⟩
  | some s =>
    have hwr : IntKind.i64.wrap (c1 + 1) = c1 + 1 := IntWalk.i64_in _ ⟨by omega, by omega⟩
    have hX2c := atQ9_set4 hX2 (.int .i64 (c1 + 1))
    have ho := (Only.refl g2 w4).setCell 4 (.int .i64 (c1 + 1))
    have hX1c := hX14.only hne ho
    have hbc := hb4.trans (ho.below hsz3)
    have hOc := hO4.keep (W' := w4.setCell ⟨g2, 4, none⟩ (.int .i64 (c1 + 1))) (by rw [ho.size]; exact Nat.le_refl _) (fun k cs hk hc => ho.block k (fun e' => by
      subst e'
      exact blkQ_ne (T := 84) (T' := 34) hc hX2 (by decide) rfl))
    go_upto_region 4 with fail
    generalize (w4.setCell ⟨g2, 4, none⟩ (.int .i64 (c1 + 1))) = w6 at *
    clear hX2 hX14 hO4 hb4 ho
    obtain ⟨_, _, _, _, _, _, _, _, _⟩ := hX2c.cells9
    obtain ⟨_, _, _, _, _, _, _, _, _⟩ := hX1c.frees9
    obtain ⟨_, _, _, _, _, _, _, _, _⟩ := hX1c.cells9
    have hZ := atQ9_put hX1c (.int .i64 m) (.int .i64 b) (.slice a5 l5.length k5) (.int .i64 c0) (.int .i64 (c1 + 1)) (.int .i64 c2) (.int .i64 c3) (.int .i64 c4) (.int .i64 c5)
    have hbz := hbc.trans ((put9_only w6 g1 (.int .i64 m) (.int .i64 b) (.slice a5 l5.length k5) (.int .i64 c0) (.int .i64 (c1 + 1)) (.int .i64 c2) (.int .i64 c3) (.int .i64 c4) (.int .i64 c5)).below hle1)
    have hLz := hOc.keep (W' := (((((((((w6.setCell ⟨g1, 0, none⟩ (.int .i64 m)).setCell ⟨g1, 1, none⟩ (.int .i64 b)).setCell ⟨g1, 2, none⟩ (.slice a5 l5.length k5)).setCell ⟨g1, 3, none⟩ (.int .i64 c0)).setCell ⟨g1, 4, none⟩ (.int .i64 (c1 + 1))).setCell ⟨g1, 5, none⟩ (.int .i64 c2)).setCell ⟨g1, 6, none⟩ (.int .i64 c3)).setCell ⟨g1, 7, none⟩ (.int .i64 c4)).setCell ⟨g1, 8, none⟩ (.int .i64 c5))) (by rw [(put9_only w6 g1 (.int .i64 m) (.int .i64 b) (.slice a5 l5.length k5) (.int .i64 c0) (.int .i64 (c1 + 1)) (.int .i64 c2) (.int .i64 c3) (.int .i64 c4) (.int .i64 c5)).size]; exact Nat.le_refl _) (fun k cs hk hc => (put9_only w6 g1 (.int .i64 m) (.int .i64 b) (.slice a5 l5.length k5) (.int .i64 c0) (.int .i64 (c1 + 1)) (.int .i64 c2) (.int .i64 c3) (.int .i64 c4) (.int .i64 c5)).block k (fun e' => by
      subst e'
      exact blkQ_ne (T := 84) (T' := 34) hc hX1c (by decide) rfl))
    obtain ⟨d0, d1, d2, d3, d4, d5, d6, d7, d8⟩ := hZ.cells9
    have HBZ := Lib.hid hbz
    have HLZ := Lib.hid hLz
    clear hX1c hX2c hbc hOc hZ hbz hLz
    repeat (first | go_skip | go_guarded | go_step | go_upon | go_back)
    refine bodyPost_ret (v := .tuple #[.agg #[.int .i64 m, .int .i64 b, .slice a5 l5.length k5, .int .i64 c0, .int .i64 (c1 + 1), .int .i64 c2, .int .i64 c3, .int .i64 c4, .int .i64 c5], .bool true]) (by simp [results, Try.results24, go_sem, d0, d1, d2, d3, d4, d5, d6, d7, d8]) rfl ⟨some s, l5, _, rfl, HCT.out, HLZ.out, by rw [HG.out]; exact HBZ.out⟩
end Go.Proofs.Ytbmbomojnljccaa
