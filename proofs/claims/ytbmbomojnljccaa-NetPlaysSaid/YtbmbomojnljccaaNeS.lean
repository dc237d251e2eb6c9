/- net: the document's Send and Forge. -/
import Derived.Test.YtbmbomojnljccaaNeR
namespace Go.Proofs.Ytbmbomojnljccaa
open Go.RowKit Go.Maps
set_option linter.unusedVariables false
set_option linter.unusedSimpArgs false
set_option maxRecDepth 100000 in
set_option maxHeartbeats 6400000 in
theorem refNeSend_any {w : World} {vl : Value} {l : List OD} {n : Nat} (m b c0 c1 c2 c3 c4 c5 a p : Int) (s : ByteArray) (hL : OwnE w 0 84 3 vl n (odV l)) (hn : n ≤ 65535) (hx : ∀ o ∈ l, o.s.size ≤ 1500) (hs : s.size ≤ 1099511627776) (hq : 0 ≤ c0 ∧ c0 ≤ 1099511627776) (h1 : 0 ≤ c1 ∧ c1 ≤ 1099511627776) :
    Calls Try.prog 22 #[neRv m b vl c0 c1 c2 c3 c4 c5, .int .i64 a, .int .i64 p, .string s] w fun e w' => ∃ v', e = .returned (.tuple #[neRv m b v' (if neMay m b (odG l a p) a p s = true then c0 + 1 else c0) (if neMay m b (odG l a p) a p s = true then c1 else c1 + 1) c2 c3 c4 c5, .bool (neMay m b (odG l a p) a p s)]) ∧ OwnE w' 0 84 3 v' (odPut (neMay m b (odG l a p) a p s) l a p s).length (odV (odPut (neMay m b (odG l a p) a p s) l a p s)) ∧ Below w.heap.size w w' := by
  unfold neRv
  obtain ⟨ax, cap, rfl⟩ := hL.formG
  have hX1 := atQ_new 34 (w.alloc (.cells #[.int .i64 m, .int .i64 b, .slice ax n cap, .int .i64 c0, .int .i64 c1, .int .i64 c2, .int .i64 c3, .int .i64 c4, .int .i64 c5] 34)) (w.heap.size + 1) #[.int .i64 0, .int .i64 0, .slice none 0 0, .int .i64 0, .int .i64 0, .int .i64 0, .int .i64 0, .int .i64 0, .int .i64 0] (by simp)
  have hX0 := (atQ_new 34 w w.heap.size #[.int .i64 m, .int .i64 b, .slice ax n cap, .int .i64 c0, .int .i64 c1, .int .i64 c2, .int .i64 c3, .int .i64 c4, .int .i64 c5] rfl).later (W' := ((w.alloc (.cells #[.int .i64 m, .int .i64 b, .slice ax n cap, .int .i64 c0, .int .i64 c1, .int .i64 c2, .int .i64 c3, .int .i64 c4, .int .i64 c5] 34)).alloc (.cells #[.int .i64 0, .int .i64 0, .slice none 0 0, .int .i64 0, .int .i64 0, .int .i64 0, .int .i64 0, .int .i64 0, .int .i64 0] 34))) ((Below.refl _ _).alloc (Nat.le_refl _) _)
  have hb : Below w.heap.size w ((w.alloc (.cells #[.int .i64 m, .int .i64 b, .slice ax n cap, .int .i64 c0, .int .i64 c1, .int .i64 c2, .int .i64 c3, .int .i64 c4, .int .i64 c5] 34)).alloc (.cells #[.int .i64 0, .int .i64 0, .slice none 0 0, .int .i64 0, .int .i64 0, .int .i64 0, .int .i64 0, .int .i64 0, .int .i64 0] 34)) := ((Below.refl _ _).alloc (Nat.le_refl _) _).alloc (by simp) _
  go_enter Try.func22, Try.ntmps22
  go_upto_region 1 with fail
  generalize ((w.alloc (.cells #[.int .i64 m, .int .i64 b, .slice ax n cap, .int .i64 c0, .int .i64 c1, .int .i64 c2, .int .i64 c3, .int .i64 c4, .int .i64 c5] 34)).alloc (.cells #[.int .i64 0, .int .i64 0, .slice none 0 0, .int .i64 0, .int .i64 0, .int .i64 0, .int .i64 0, .int .i64 0, .int .i64 0] 34)) = w2 at hX0 hX1 hb ⊢
  have hL2 := hL.later hb
  generalize hg1 : w.heap.size + 1 = g1 at *
  generalize hg0 : w.heap.size = g0 at *
  have HG := Lib.hid hg0
  have hle1 : g0 ≤ g1 := by omega
  have hsz2 : g0 ≤ w2.heap.size := Nat.le_of_lt hX0.lt
  clear hg0 hg1 hL
  obtain ⟨z0, z1, z2, z3, z4, z5, z6, z7, z8⟩ := hX0.cells9
  have HA := Lib.hid (refNePut_any m b c0 c1 c2 c3 c4 c5 a p s hL2 hn hx hs)
  unfold neRv at HA
  generalize hy : neMay m b (odG l a p) a p s = y at *
  have HY := Lib.hid hy
  clear hx hy
  go_wp2_with fail
  refine HA.out.mono ?_
  rintro e w3 ⟨va, rfl, hO, hb3⟩
  obtain ⟨a5, k5, rfl⟩ := hO.formG
  generalize hl5 : odPut y l a p s = l5 at *
  have HL5 := Lib.hid hl5
  clear hl5
  have hX1' := hX1.later hb3
  have hb3' := hb.trans (hb3.mono hsz2)
  have hX2 := atQ_new 34 w3 w3.heap.size #[.int .i64 m, .int .i64 b, .slice a5 l5.length k5, .int .i64 c0, .int .i64 c1, .int .i64 c2, .int .i64 c3, .int .i64 c4, .int .i64 c5] rfl
  have hal : Below w3.heap.size w3 (w3.alloc (.cells #[.int .i64 m, .int .i64 b, .slice a5 l5.length k5, .int .i64 c0, .int .i64 c1, .int .i64 c2, .int .i64 c3, .int .i64 c4, .int .i64 c5] 34)) := (Below.refl _ _).alloc (Nat.le_refl _) _
  have hO4 := hO.later hal
  have hX14 := hX1'.later hal
  have hsz3 : g0 ≤ w3.heap.size := Nat.le_trans hsz2 hb3.size
  have hb4 := hb3'.trans (hal.mono hsz3)
  have hne : g1 ≠ w3.heap.size := by have := hX1'.lt; omega
  have hne' : w3.heap.size ≠ g1 := hne.symm
  clear hX0 hX1 hL2 HA hb z0 z1 z2 z3 z4 z5 z6 z7 z8 hO hX1' hb3' hal hb3
  go_upto_region 2 with fail
  generalize (w3.alloc (.cells #[.int .i64 m, .int .i64 b, .slice a5 l5.length k5, .int .i64 c0, .int .i64 c1, .int .i64 c2, .int .i64 c3, .int .i64 c4, .int .i64 c5] 34)) = w4 at *
  generalize w3.heap.size = g2 at *
  obtain ⟨_, _, _, _, _, _, _, _, _⟩ := hX2.cells9
  obtain ⟨_, _, _, _, _, _, _, _, _⟩ := hX2.frees9
  cases y with
  | true =>
    have hwr : IntKind.i64.wrap (c0 + 1) = c0 + 1 := IntWalk.i64_in _ ⟨by omega, by omega⟩
    have hX2c := atQ9_set3 hX2 (.int .i64 (c0 + 1))
    have ho := (Only.refl g2 w4).setCell 3 (.int .i64 (c0 + 1))
    have hX1c := hX14.only hne ho
    have hbc := hb4.trans (ho.below hsz3)
    have hOc := hO4.keep (W' := w4.setCell ⟨g2, 3, none⟩ (.int .i64 (c0 + 1))) (by rw [ho.size]; exact Nat.le_refl _) (fun k cs hk hc => ho.block k (fun e' => by
      subst e'
      exact blkQ_ne (T := 84) (T' := 34) hc hX2 (by decide) rfl))
    go_upto_region 5 with fail
    generalize (w4.setCell ⟨g2, 3, none⟩ (.int .i64 (c0 + 1))) = w6 at *
    clear hX2 hX14 hO4 hb4 ho
    obtain ⟨_, _, _, _, _, _, _, _, _⟩ := hX2c.cells9
    obtain ⟨_, _, _, _, _, _, _, _, _⟩ := hX1c.frees9
    obtain ⟨_, _, _, _, _, _, _, _, _⟩ := hX1c.cells9
    have hZ := atQ9_put hX1c (.int .i64 m) (.int .i64 b) (.slice a5 l5.length k5) (.int .i64 (c0 + 1)) (.int .i64 c1) (.int .i64 c2) (.int .i64 c3) (.int .i64 c4) (.int .i64 c5)
    have hbz := hbc.trans ((put9_only w6 g1 (.int .i64 m) (.int .i64 b) (.slice a5 l5.length k5) (.int .i64 (c0 + 1)) (.int .i64 c1) (.int .i64 c2) (.int .i64 c3) (.int .i64 c4) (.int .i64 c5)).below hle1)
    have hLz := hOc.keep (W' := (((((((((w6.setCell ⟨g1, 0, none⟩ (.int .i64 m)).setCell ⟨g1, 1, none⟩ (.int .i64 b)).setCell ⟨g1, 2, none⟩ (.slice a5 l5.length k5)).setCell ⟨g1, 3, none⟩ (.int .i64 (c0 + 1))).setCell ⟨g1, 4, none⟩ (.int .i64 c1)).setCell ⟨g1, 5, none⟩ (.int .i64 c2)).setCell ⟨g1, 6, none⟩ (.int .i64 c3)).setCell ⟨g1, 7, none⟩ (.int .i64 c4)).setCell ⟨g1, 8, none⟩ (.int .i64 c5))) (by rw [(put9_only w6 g1 (.int .i64 m) (.int .i64 b) (.slice a5 l5.length k5) (.int .i64 (c0 + 1)) (.int .i64 c1) (.int .i64 c2) (.int .i64 c3) (.int .i64 c4) (.int .i64 c5)).size]; exact Nat.le_refl _) (fun k cs hk hc => (put9_only w6 g1 (.int .i64 m) (.int .i64 b) (.slice a5 l5.length k5) (.int .i64 (c0 + 1)) (.int .i64 c1) (.int .i64 c2) (.int .i64 c3) (.int .i64 c4) (.int .i64 c5)).block k (fun e' => by
      subst e'
      exact blkQ_ne (T := 84) (T' := 34) hc hX1c (by decide) rfl))
    obtain ⟨d0, d1, d2, d3, d4, d5, d6, d7, d8⟩ := hZ.cells9
    have HBZ := Lib.hid hbz
    have HLZ := Lib.hid hLz
    clear hX1c hX2c hOc hZ hbz hLz hbc
    iterate 18 (first | go_skip | go_guarded | go_step | go_upon | go_back)
    refine bodyPost_ret (v := .tuple #[.agg #[.int .i64 m, .int .i64 b, .slice a5 l5.length k5, .int .i64 (c0 + 1), .int .i64 c1, .int .i64 c2, .int .i64 c3, .int .i64 c4, .int .i64 c5], .bool true]) (by simp [results, Try.results22, go_sem, d0, d1, d2, d3, d4, d5, d6, d7, d8]) rfl ⟨.slice a5 l5.length k5, by rw [HY.out]; rfl, by rw [HY.out, HL5.out]; exact HLZ.out, by rw [HG.out]; exact HBZ.out⟩
  | false =>
    have hwr : IntKind.i64.wrap (c1 + 1) = c1 + 1 := IntWalk.i64_in _ ⟨by omega, by omega⟩
    have hX2c := atQ9_set4 hX2 (.int .i64 (c1 + 1))
    have ho := (Only.refl g2 w4).setCell 4 (.int .i64 (c1 + 1))
    have hX1c := hX14.only hne ho
    have hbc := hb4.trans (ho.below hsz3)
    have hOc := hO4.keep (W' := w4.setCell ⟨g2, 4, none⟩ (.int .i64 (c1 + 1))) (by rw [ho.size]; exact Nat.le_refl _) (fun k cs hk hc => ho.block k (fun e' => by
      subst e'
      exact blkQ_ne (T := 84) (T' := 34) hc hX2 (by decide) rfl))
    go_upto_region 5 with fail
    generalize (w4.setCell ⟨g2, 4, none⟩ (.int .i64 (c1 + 1))) = w6 at *
    clear hX2 hX14 hO4 hb4 ho
    obtain ⟨_, _, _, _, _, _, _, _, _⟩ := hX2c.cells9
    obtain ⟨_, _, _, _, _, _, _, _, _⟩ := hX1c.frees9
    obtain ⟨_, _, _, _, _, _, _, _, _⟩ := hX1c.cells9
    have hZ := atQ9_put hX1c (.int .i64 m) (.int .i64 b) (.slice a5 l5.length k5) (.int .i64 c0) (.int .i64 (c1 + 1)) (.int .i64 c2) (.int .i64 c3) (.int .i64 c4) (.int .i64 c5)
    have hbz := hbc.trans ((put9_only w6 g1 (.int .i64 m) (.int .i64 b) (.slice a5 l5.length k5) (.int .i64 c0) (.int .i64 (c1 + 1)) (.int .i64 c2) (.int .i64 c3) (.int .i64 c4) (.int .i64 c5)).below hle1)
    have hLz := hOc.keep (W' := (((((((((w6.setCell ⟨g1, 0, none⟩ (.int .i64 m)).setCell ⟨g1, 1, none⟩ (.int .i64 b)).setCell ⟨g1, 2, none⟩ (.slice a5 l5.length k5)).setCell ⟨g1, 3, none⟩ (.int .i64 c0)).setCell ⟨g1, 4, none⟩ (.int .i64 (c1 + 1))).setCell ⟨g1, 5, none⟩ (.int .i64 c2)).setCell ⟨g1, 6, none⟩ (.int .i64 c3)).setCell ⟨g1, 7, none⟩ (.int .i64 c4)).setCell ⟨g1, 8, none⟩ (.int .i64 c5))) (by rw [(put9_only w6 g1 (.int .i64 m) (.int .i64 b) (.slice a5 l5.length k5) (.int .i64 c0) (.int .i64 (c1 + 1)) (.int .i64 c2) (.int .i64 c3) (.int .i64 c4) (.int .i64 c5)).size]; exact Nat.le_refl _) (fun k cs hk hc => (put9_only w6 g1 (.int .i64 m) (.int .i64 b) (.slice a5 l5.length k5) (.int .i64 c0) (.int .i64 (c1 + 1)) (.int .i64 c2) (.int .i64 c3) (.int .i64 c4) (.int .i64 c5)).block k (fun e' => by
      subst e'
      exact blkQ_ne (T := 84) (T' := 34) hc hX1c (by decide) rfl))
    obtain ⟨d0, d1, d2, d3, d4, d5, d6, d7, d8⟩ := hZ.cells9
    have HBZ := Lib.hid hbz
    have HLZ := Lib.hid hLz
    clear hX1c hX2c hOc hZ hbz hLz hbc
    iterate 18 (first | go_skip | go_guarded | go_step | go_upon | go_back)
    refine bodyPost_ret (v := .tuple #[.agg #[.int .i64 m, .int .i64 b, .slice a5 l5.length k5, .int .i64 c0, .int .i64 (c1 + 1), .int .i64 c2, .int .i64 c3, .int .i64 c4, .int .i64 c5], .bool false]) (by simp [results, Try.results22, go_sem, d0, d1, d2, d3, d4, d5, d6, d7, d8]) rfl ⟨.slice a5 l5.length k5, by rw [HY.out]; rfl, by rw [HY.out, HL5.out]; exact HLZ.out, by rw [HG.out]; exact HBZ.out⟩
set_option maxRecDepth 100000 in
set_option maxHeartbeats 6400000 in
theorem refNeForge_any {w : World} {vl : Value} {l : List OD} {n : Nat} (m b c0 c1 c2 c3 c4 c5 a p : Int) (s : ByteArray) (hL : OwnE w 0 84 3 vl n (odV l)) (hn : n ≤ 65535) (hx : ∀ o ∈ l, o.s.size ≤ 1500) (hs : s.size ≤ 1099511627776) (hq : 0 ≤ c5 ∧ c5 ≤ 1099511627776) (h1 : 0 ≤ c1 ∧ c1 ≤ 1099511627776) :
    Calls Try.prog 28 #[neRv m b vl c0 c1 c2 c3 c4 c5, .int .i64 a, .int .i64 p, .string s] w fun e w' => ∃ v', e = .returned (.tuple #[neRv m b v' c0 (if neMay m b (odG l a p) a p s = true then c1 else c1 + 1) c2 c3 c4 (if neMay m b (odG l a p) a p s = true then c5 + 1 else c5), .bool (neMay m b (odG l a p) a p s)]) ∧ OwnE w' 0 84 3 v' (odPut (neMay m b (odG l a p) a p s) l a p s).length (odV (odPut (neMay m b (odG l a p) a p s) l a p s)) ∧ Below w.heap.size w w' := by
  unfold neRv
  obtain ⟨ax, cap, rfl⟩ := hL.formG
  have hX1 := atQ_new 34 (w.alloc (.cells #[.int .i64 m, .int .i64 b, .slice ax n cap, .int .i64 c0, .int .i64 c1, .int .i64 c2, .int .i64 c3, .int .i64 c4, .int .i64 c5] 34)) (w.heap.size + 1) #[.int .i64 0, .int .i64 0, .slice none 0 0, .int .i64 0, .int .i64 0, .int .i64 0, .int .i64 0, .int .i64 0, .int .i64 0] (by simp)
  have hX0 := (atQ_new 34 w w.heap.size #[.int .i64 m, .int .i64 b, .slice ax n cap, .int .i64 c0, .int .i64 c1, .int .i64 c2, .int .i64 c3, .int .i64 c4, .int .i64 c5] rfl).later (W' := ((w.alloc (.cells #[.int .i64 m, .int .i64 b, .slice ax n cap, .int .i64 c0, .int .i64 c1, .int .i64 c2, .int .i64 c3, .int .i64 c4, .int .i64 c5] 34)).alloc (.cells #[.int .i64 0, .int .i64 0, .slice none 0 0, .int .i64 0, .int .i64 0, .int .i64 0, .int .i64 0, .int .i64 0, .int .i64 0] 34))) ((Below.refl _ _).alloc (Nat.le_refl _) _)
  have hb : Below w.heap.size w ((w.alloc (.cells #[.int .i64 m, .int .i64 b, .slice ax n cap, .int .i64 c0, .int .i64 c1, .int .i64 c2, .int .i64 c3, .int .i64 c4, .int .i64 c5] 34)).alloc (.cells #[.int .i64 0, .int .i64 0, .slice none 0 0, .int .i64 0, .int .i64 0, .int .i64 0, .int .i64 0, .int .i64 0, .int .i64 0] 34)) := ((Below.refl _ _).alloc (Nat.le_refl _) _).alloc (by simp) _
  go_enter Try.func28, Try.ntmps28
  go_upto_region 1 with fail
  generalize ((w.alloc (.cells #[.int .i64 m, .int .i64 b, .slice ax n cap, .int .i64 c0, .int .i64 c1, .int .i64 c2, .int .i64 c3, .int .i64 c4, .int .i64 c5] 34)).alloc (.cells #[.int .i64 0, .int .i64 0, .slice none 0 0, .int .i64 0, .int .i64 0, .int .i64 0, .int .i64 0, .int .i64 0, .int .i64 0] 34)) = w2 at hX0 hX1 hb ⊢
  have hL2 := hL.later hb
  generalize hg1 : w.heap.size + 1 = g1 at *
  generalize hg0 : w.heap.size = g0 at *
  have HG := Lib.hid hg0
  have hle1 : g0 ≤ g1 := by omega
  have hsz2 : g0 ≤ w2.heap.size := Nat.le_of_lt hX0.lt
  clear hg0 hg1 hL
  obtain ⟨z0, z1, z2, z3, z4, z5, z6, z7, z8⟩ := hX0.cells9
  have HA := Lib.hid (refNePut_any m b c0 c1 c2 c3 c4 c5 a p s hL2 hn hx hs)
  unfold neRv at HA
  generalize hy : neMay m b (odG l a p) a p s = y at *
  have HY := Lib.hid hy
  clear hx hy
  go_wp2_with fail
  refine HA.out.mono ?_
  rintro e w3 ⟨va, rfl, hO, hb3⟩
  obtain ⟨a5, k5, rfl⟩ := hO.formG
  generalize hl5 : odPut y l a p s = l5 at *
  have HL5 := Lib.hid hl5
  clear hl5
  have hX1' := hX1.later hb3
  have hb3' := hb.trans (hb3.mono hsz2)
  have hX2 := atQ_new 34 w3 w3.heap.size #[.int .i64 m, .int .i64 b, .slice a5 l5.length k5, .int .i64 c0, .int .i64 c1, .int .i64 c2, .int .i64 c3, .int .i64 c4, .int .i64 c5] rfl
  have hal : Below w3.heap.size w3 (w3.alloc (.cells #[.int .i64 m, .int .i64 b, .slice a5 l5.length k5, .int .i64 c0, .int .i64 c1, .int .i64 c2, .int .i64 c3, .int .i64 c4, .int .i64 c5] 34)) := (Below.refl _ _).alloc (Nat.le_refl _) _
  have hO4 := hO.later hal
  have hX14 := hX1'.later hal
  have hsz3 : g0 ≤ w3.heap.size := Nat.le_trans hsz2 hb3.size
  have hb4 := hb3'.trans (hal.mono hsz3)
  have hne : g1 ≠ w3.heap.size := by have := hX1'.lt; omega
  have hne' : w3.heap.size ≠ g1 := hne.symm
  clear hX0 hX1 hL2 HA hb z0 z1 z2 z3 z4 z5 z6 z7 z8 hO hX1' hb3' hal hb3
  go_upto_region 2 with fail
  generalize (w3.alloc (.cells #[.int .i64 m, .int .i64 b, .slice a5 l5.length k5, .int .i64 c0, .int .i64 c1, .int .i64 c2, .int .i64 c3, .int .i64 c4, .int .i64 c5] 34)) = w4 at *
  generalize w3.heap.size = g2 at *
  obtain ⟨_, _, _, _, _, _, _, _, _⟩ := hX2.cells9
  obtain ⟨_, _, _, _, _, _, _, _, _⟩ := hX2.frees9
  cases y with
  | true =>
    have hwr : IntKind.i64.wrap (c5 + 1) = c5 + 1 := IntWalk.i64_in _ ⟨by omega, by omega⟩
    have hX2c := atQ9_set8 hX2 (.int .i64 (c5 + 1))
    have ho := (Only.refl g2 w4).setCell 8 (.int .i64 (c5 + 1))
    have hX1c := hX14.only hne ho
    have hbc := hb4.trans (ho.below hsz3)
    have hOc := hO4.keep (W' := w4.setCell ⟨g2, 8, none⟩ (.int .i64 (c5 + 1))) (by rw [ho.size]; exact Nat.le_refl _) (fun k cs hk hc => ho.block k (fun e' => by
      subst e'
      exact blkQ_ne (T := 84) (T' := 34) hc hX2 (by decide) rfl))
    go_upto_region 5 with fail
    generalize (w4.setCell ⟨g2, 8, none⟩ (.int .i64 (c5 + 1))) = w6 at *
    clear hX2 hX14 hO4 hb4 ho
    obtain ⟨_, _, _, _, _, _, _, _, _⟩ := hX2c.cells9
    obtain ⟨_, _, _, _, _, _, _, _, _⟩ := hX1c.frees9
    obtain ⟨_, _, _, _, _, _, _, _, _⟩ := hX1c.cells9
    have hZ := atQ9_put hX1c (.int .i64 m) (.int .i64 b) (.slice a5 l5.length k5) (.int .i64 c0) (.int .i64 c1) (.int .i64 c2) (.int .i64 c3) (.int .i64 c4) (.int .i64 (c5 + 1))
    have hbz := hbc.trans ((put9_only w6 g1 (.int .i64 m) (.int .i64 b) (.slice a5 l5.length k5) (.int .i64 c0) (.int .i64 c1) (.int .i64 c2) (.int .i64 c3) (.int .i64 c4) (.int .i64 (c5 + 1))).below hle1)
    have hLz := hOc.keep (W' := (((((((((w6.setCell ⟨g1, 0, none⟩ (.int .i64 m)).setCell ⟨g1, 1, none⟩ (.int .i64 b)).setCell ⟨g1, 2, none⟩ (.slice a5 l5.length k5)).setCell ⟨g1, 3, none⟩ (.int .i64 c0)).setCell ⟨g1, 4, none⟩ (.int .i64 c1)).setCell ⟨g1, 5, none⟩ (.int .i64 c2)).setCell ⟨g1, 6, none⟩ (.int .i64 c3)).setCell ⟨g1, 7, none⟩ (.int .i64 c4)).setCell ⟨g1, 8, none⟩ (.int .i64 (c5 + 1)))) (by rw [(put9_only w6 g1 (.int .i64 m) (.int .i64 b) (.slice a5 l5.length k5) (.int .i64 c0) (.int .i64 c1) (.int .i64 c2) (.int .i64 c3) (.int .i64 c4) (.int .i64 (c5 + 1))).size]; exact Nat.le_refl _) (fun k cs hk hc => (put9_only w6 g1 (.int .i64 m) (.int .i64 b) (.slice a5 l5.length k5) (.int .i64 c0) (.int .i64 c1) (.int .i64 c2) (.int .i64 c3) (.int .i64 c4) (.int .i64 (c5 + 1))).block k (fun e' => by
      subst e'
      exact blkQ_ne (T := 84) (T' := 34) hc hX1c (by decide) rfl))
    obtain ⟨d0, d1, d2, d3, d4, d5, d6, d7, d8⟩ := hZ.cells9
    have HBZ := Lib.hid hbz
    have HLZ := Lib.hid hLz
    clear hX1c hX2c hOc hZ hbz hLz hbc
    iterate 18 (first | go_skip | go_guarded | go_step | go_upon | go_back)
    refine bodyPost_ret (v := .tuple #[.agg #[.int .i64 m, .int .i64 b, .slice a5 l5.length k5, .int .i64 c0, .int .i64 c1, .int .i64 c2, .int .i64 c3, .int .i64 c4, .int .i64 (c5 + 1)], .bool true]) (by simp [results, Try.results28, go_sem, d0, d1, d2, d3, d4, d5, d6, d7, d8]) rfl ⟨.slice a5 l5.length k5, by rw [HY.out]; rfl, by rw [HY.out, HL5.out]; exact HLZ.out, by rw [HG.out]; exact HBZ.out⟩
  | false =>
    have hwr : IntKind.i64.wrap (c1 + 1) = c1 + 1 := IntWalk.i64_in _ ⟨by omega, by omega⟩
    have hX2c := atQ9_set4 hX2 (.int .i64 (c1 + 1))
    have ho := (Only.refl g2 w4).setCell 4 (.int .i64 (c1 + 1))
    have hX1c := hX14.only hne ho
    have hbc := hb4.trans (ho.below hsz3)
    have hOc := hO4.keep (W' := w4.setCell ⟨g2, 4, none⟩ (.int .i64 (c1 + 1))) (by rw [ho.size]; exact Nat.le_refl _) (fun k cs hk hc => ho.block k (fun e' => by
      subst e'
      exact blkQ_ne (T := 84) (T' := 34) hc hX2 (by decide) rfl))
    go_upto_region 5 with fail
    generalize (w4.setCell ⟨g2, 4, none⟩ (.int .i64 (c1 + 1))) = w6 at *
    clear hX2 hX14 hO4 hb4 ho
    obtain ⟨_, _, _, _, _, _, _, _, _⟩ := hX2c.cells9
    obtain ⟨_, _, _, _, _, _, _, _, _⟩ := hX1c.frees9
    obtain ⟨_, _, _, _, _, _, _, _, _⟩ := hX1c.cells9
    have hZ := atQ9_put hX1c (.int .i64 m) (.int .i64 b) (.slice a5 l5.length k5) (.int .i64 c0) (.int .i64 (c1 + 1)) (.int .i64 c2) (.int .i64 c3) (.int .i64 c4) (.int .i64 c5)
    have hbz := hbc.trans ((put9_only w6 g1 (.int .i64 m) (.int .i64 b) (.slice a5 l5.length k5) (.int .i64 c0) (.int .i64 (c1 + 1)) (.int .i64 c2) (.int .i64 c3) (.int .i64 c4) (.int .i64 c5)).below hle1)
    have hLz := hOc.keep (W' := (((((((((w6.setCell ⟨g1, 0, none⟩ (.int .i64 m)).setCell ⟨g1, 1, none⟩ (.int .i64 b)).setCell ⟨g1, 2, none⟩ (.slice a5 l5.length k5)).setCell ⟨g1, 3, none⟩ (.int .i64 c0)).setCell ⟨g1, 4, none⟩ (.int .i64 (c1 + 1))).setCell ⟨g1, 5, none⟩ (.int .i64 c2)).setCell ⟨g1, 6, none⟩ (.int .i64 c3)).setCell ⟨g1, 7, none⟩ (.int .i64 c4)).setCell ⟨g1, 8, none⟩ (.int .i64 c5))) (by rw [(put9_only w6 g1 (.int .i64 m) (.int .i64 b) (.slice a5 l5.length k5) (.int .i64 c0) (.int .i64 (c1 + 1)) (.int .i64 c2) (.int .i64 c3) (.int .i64 c4) (.int .i64 c5)).size]; exact Nat.le_refl _) (fun k cs hk hc => (put9_only w6 g1 (.int .i64 m) (.int .i64 b) (.slice a5 l5.length k5) (.int .i64 c0) (.int .i64 (c1 + 1)) (.int .i64 c2) (.int .i64 c3) (.int .i64 c4) (.int .i64 c5)).block k (fun e' => by
      subst e'
      exact blkQ_ne (T := 84) (T' := 34) hc hX1c (by decide) rfl))
    obtain ⟨d0, d1, d2, d3, d4, d5, d6, d7, d8⟩ := hZ.cells9
    have HBZ := Lib.hid hbz
    have HLZ := Lib.hid hLz
    clear hX1c hX2c hOc hZ hbz hLz hbc
    iterate 18 (first | go_skip | go_guarded | go_step | go_upon | go_back)
    refine bodyPost_ret (v := .tuple #[.agg #[.int .i64 m, .int .i64 b, .slice a5 l5.length k5, .int .i64 c0, .int .i64 (c1 + 1), .int .i64 c2, .int .i64 c3, .int .i64 c4, .int .i64 c5], .bool false]) (by simp [results, Try.results28, go_sem, d0, d1, d2, d3, d4, d5, d6, d7, d8]) rfl ⟨.slice a5 l5.length k5, by rw [HY.out]; rfl, by rw [HY.out, HL5.out]; exact HLZ.out, by rw [HG.out]; exact HBZ.out⟩
end Go.Proofs.Ytbmbomojnljccaa
