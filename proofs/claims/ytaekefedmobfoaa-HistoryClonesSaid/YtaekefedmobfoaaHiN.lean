/- history: the document's Put. -/
import Derived.Test.YtaekefedmobfoaaHiL
namespace Go.Proofs.Ytaekefedmobfoaa
open Go.RowKit
set_option linter.unusedVariables false
set_option linter.unusedSimpArgs false
/-- A row of records is kept by stores into a block of the document's History. -/
theorem OwnE.onlyH {W W' : World} {b g : Nat} {e T : TypeId} {size : Nat} {v : Value} {n : Nat} {xs : List Value} {c0 c1 c2 c3 : Value} (h : OwnE W b e size v n xs) (x : At4 T W g c0 c1 c2 c3) (ho : Only g W W') (hT : e ≠ T) : OwnE W' b e size v n xs :=
  h.keep (by rw [ho.size]; exact Nat.le_refl _) fun k cs _ hc => ho.block k (fun e' => by
    subst e'
    unfold At4 at x
    rw [x] at hc
    simp only [Option.some.injEq, Obj.cells.injEq] at hc
    exact hT hc.2.1.symm)
theorem hiOk_all (s : Int) (l : List HR) (h : ∀ j x, j < l.length → l[j]? = some x → x.s < s) : hiOk s l = true := by
  unfold hiOk
  rw [List.all_eq_true]
  intro x hx
  obtain ⟨j, hj⟩ := List.getElem?_of_mem hx
  have := h j x (List.getElem?_eq_some_iff.1 hj).1 hj
  simpa using this

set_option maxRecDepth 100000 in
set_option maxHeartbeats 3200000 in
theorem refHPutYes {w : World} {vl : Value} {l : List HR} {n : Nat} (M T G : Int) (s p : Int) (d : ByteArray) (hL : OwnE w 0 125 4 vl n (hiV l)) (hn : n ≤ 65535) (hM : 1 ≤ M ∧ M ≤ 65535) (hok : hiOk s l = true) :
    Calls Try.prog 61 #[.agg #[.int .i64 M, .int .i64 T, .int .i64 G, vl], .int .i64 s, .int .i64 p, .string d] w fun e w' => ∃ v', e = .returned (.tuple #[.agg #[.int .i64 M, .int .i64 T, .int .i64 G, v'], .bool true]) ∧ OwnE w' 0 125 4 v' (hiAdd M l ⟨s, 0, p, d⟩).length (hiV (hiAdd M l ⟨s, 0, p, d⟩)) ∧ Below w.heap.size w w' := by
  obtain ⟨a, cap, rfl, hnc, hcm, hln, hrd⟩ := hL.rdr
  unfold maxLen at hcm
  have hX0 := (at4_new 49 w w.heap.size (.int .i64 M) (.int .i64 T) (.int .i64 G) (.slice a n cap) rfl).alloc (.cells #[.int .i64 0, .int .i64 0, .int .i64 0, .slice none 0 0] 49)
  have hX1 := at4_new 49 (w.alloc (.cells #[.int .i64 M, .int .i64 T, .int .i64 G, .slice a n cap] 49)) (w.heap.size + 1) (.int .i64 0) (.int .i64 0) (.int .i64 0) (.slice none 0 0) (by simp)
  have hb : Below w.heap.size w ((w.alloc (.cells #[.int .i64 M, .int .i64 T, .int .i64 G, .slice a n cap] 49)).alloc (.cells #[.int .i64 0, .int .i64 0, .int .i64 0, .slice none 0 0] 49)) := ((Below.refl _ _).alloc (Nat.le_refl _) _).alloc (by simp) _
  go_enter Try.func61, Try.ntmps61
  go_upto_region 1 with fail
  generalize ((w.alloc (.cells #[.int .i64 M, .int .i64 T, .int .i64 G, .slice a n cap] 49)).alloc (.cells #[.int .i64 0, .int .i64 0, .int .i64 0, .slice none 0 0] 49)) = w2 at *
  have hrd2 := hrd.later hb
  have hL2 := Lib.hid (hL.later hb)
  generalize hg1 : w.heap.size + 1 = g1 at *
  generalize hg0 : w.heap.size = g0 at *
  have HG := Lib.hid hg0
  have hle1 : g0 ≤ g1 := by omega
  have hne01 : g0 ≠ g1 := by omega
  have hne10 : g1 ≠ g0 := by omega
  have hsz2 : g0 ≤ w2.heap.size := Nat.le_of_lt hX0.lt
  have HRw := Lib.hid (fun W (h : Below w2.heap.size w2 W) => hrd2.later h)
  have HX0 := Lib.hid (fun W (h : Below w2.heap.size w2 W) => hX0.later h)
  have HX1 := Lib.hid (fun W (h : Below w2.heap.size w2 W) => hX1.later h)
  have HLN := Lib.hid hln
  have HOK := Lib.hid hok
  obtain ⟨_, _, _, _⟩ := hX0.cells
  clear hg0 hg1 hL hrd hrd2 hln hok hX0 hX1
  go_wp2_with fail
  go_loopw [16] (fun i wr => ∃ k : Nat, k ≤ n ∧ i = .int .i64 k ∧ Hid (∀ j x, j < k → l[j]? = some x → x.s < s) ∧ Below w2.heap.size w2 wr) (fun i _ => n - (intOf i).toNat)
  case atStart => exact ⟨0, Nat.zero_le _, rfl, Lib.hid (fun j x hj => by omega), Below.refl _ _⟩
  case round =>
    obtain ⟨k, hk, rfl, hno, hbw⟩ := hrel
    by_cases hlt : k < n
    · obtain ⟨r, hr⟩ : ∃ r, l[k]? = some r := ⟨_, List.getElem?_eq_getElem (by have := HLN.out; omega)⟩
      obtain ⟨g, off, rfl, c0, c1, c2, c3⟩ := HRw.out wr hbw k r hr
      have HRR := Lib.hid hr
      have hX := at4_new 125 wr wr.heap.size (.int .i64 r.s) (.int .i64 r.t) (.int .i64 r.p) (.string r.d) rfl
      have hb3 := hbw.alloc hbw.size (.cells #[.int .i64 r.s, .int .i64 r.t, .int .i64 r.p, .string r.d] 125)
      clear hr
      go_upto_region 4 with fail
      generalize wr.alloc (.cells #[.int .i64 r.s, .int .i64 r.t, .int .i64 r.p, .string r.d] 125) = w3 at hX hb3 ⊢
      generalize wr.heap.size = g3 at hX ⊢
      clear hbw c0 c1 c2 c3
      obtain ⟨_, _, _, _⟩ := hX.cells
      by_cases he : s ≤ r.s

      · exfalso
        have h1 := hiOk_no s k r HRR.out he
        rw [HOK.out] at h1
        cases h1
      · have HN : Hid (∀ j x, j < k + 1 → l[j]? = some x → x.s < s) := Lib.hid (fun j x hj hx => by
          rcases Nat.lt_or_ge j k with h | h
          · exact hno.out j x h hx
          · obtain rfl : j = k := by omega
            rw [HRR.out] at hx
            cases hx
            omega)
        go_wp2_with fail
        go_roundw
        case rel => exact ⟨k + 1, by omega, by go_num, HN, hb3⟩
        case measure => simp [intOf]; omega
    · obtain rfl : k = n := by omega
      obtain ⟨i0, hi, hz0, hz1, hz2⟩ := info_parts info_rrec
      have hLw := hL2.out.later hbw
      have hlw := hLw.1.1
      have hal : Below wr.heap.size wr (wr.alloc (.cells #[] 125)) := (Below.refl _ _).alloc (Nat.le_refl _) _
      have hE : OwnE (wr.alloc (.cells #[] 125)) wr.heap.size 125 4 (.slice (some ⟨wr.heap.size, 0, none⟩) 0 0) 0 [] := ownE_of (World.ownsRow_lit wr #[] 0 (Nat.le_refl _) (Nat.zero_le _) rfl)
      obtain ⟨xa, xc, ea, hnn, hcc, _⟩ := (hLw.later hal).srcR
      cases ea
      have HC3 := Lib.hid hcc
      have HN3 := Lib.hid hnn
      have H13 := Lib.hid (hiV_one l)
      have HL3 := Lib.hid hlw
      have hX0w := HX0.out wr hbw
      obtain ⟨_, _, _, _⟩ := (hX0w.later hal).cells
      clear hcc hnn hlw hLw
      go_wp2_with (at_builtin; refine append_anyR _ rfl (.tmp 26) (.tmp 28) 47 rfl 125 i0 (.agg #[.int .i64 0, .int .i64 0, .int .i64 0, .string ByteArray.empty]) 4 40 Try.underlying47 hi hz0 hz1 hz2 rfl (by decide) wr.heap.size _ 0 [] rfl hE a k cap (hiV l) rfl HL3.out HN3.out HC3.out H13.out ?m1 ?m2 (by simp) ?_)
      case m1 => unfold maxLen; omega
      case m2 => omega
      intro v4 w4 hO4 hg4 _
      have hk4 : Below wr.heap.size wr w4 := hal.grown hg4 (by simp) (fun q hq => by cases hq; exact Nat.le_refl _)
      have hbs4 := hk4.size
      have hO4' : OwnE w4 wr.heap.size 125 4 v4 k (hiV l) := by simpa using hO4
      clear hO4 hg4 hE hal HC3 HN3 H13 HL3 hX0w
      go_wp2_with (at_builtin; refine append_recE (W := wr) rfl (.tmp 29) (.tmp 34) 47 rfl 125 i0 (.agg #[.int .i64 0, .int .i64 0, .int .i64 0, .string ByteArray.empty]) 4 40 Try.underlying47 hi hz0 hz1 hz2 rfl (by decide) wr.heap.size _ k (hiV l) rfl hO4' #[.int .i64 s, .int .i64 0, .int .i64 p, .string d] rfl rfl ?d0 ?d1 ?d2 hbs4 wr.heap.size (Nat.le_refl _) hk4 ?_)
      case d0 => exact ⟨rfl, rfl, rfl, rfl⟩
      case d1 => unfold maxLen; omega
      case d2 => omega
      intro v5 w5 hO5 hk5 _ _
      have hO5' : OwnE w5 wr.heap.size 125 4 v5 (k + 1) (hiV (l ++ [⟨s, 0, p, d⟩])) := by rw [hiV_snoc]; exact hO5
      clear hO5 hO4' hk4 hbs4
      have hbw5 := hbw.trans (hk5.mono hbw.size)
      have hX0_5 := HX0.out w5 hbw5
      have hX1_5 := HX1.out w5 hbw5
      have hb5 := hb.trans (hbw5.mono hsz2)
      have hbase : (0 : Nat) ≤ wr.heap.size := Nat.zero_le _
      obtain ⟨_, _, _, _⟩ := hX0_5.cells
      obtain ⟨_, _, _, _⟩ := hX0_5.frees
      obtain ⟨g5, off5, cap5, rfl, q1, q2, _⟩ := hO5'.row (by omega)
      unfold maxLen at q2
      have HXE : Hid (∃ z : HR, z = ⟨s, 0, p, d⟩) := Lib.hid ⟨_, rfl⟩
      obtain ⟨xx, hxx⟩ := HXE.out
      rw [← hxx] at hO5'
      have HXX := Lib.hid hxx.symm
      clear hxx HXE
      go_upto_region 8 with fail
      by_cases hful : M < (k : Int) + 1
      · have hk0 : 1 ≤ k := by omega
        have hc1 : ¬ cap5 = 1 := by omega
        have hc2 : 1 ≤ cap5 := by omega
        have hfr := (hO5'.front 1 (by omega) [] (Nat.zero_le _)).base (Nat.zero_le _)
        rw [hiV_drop, show k + 1 - 1 = k by omega] at hfr
        have hOy : OwnE w5 0 125 4 (.slice (some ⟨g5, off5 + 4, none⟩) k (cap5 - 1)) k (hiV ((l ++ [xx]).drop 1)) := hfr
        have hd : decide (M < (k : Int) + 1) = true := decide_eq_true hful
        have HAD : Hid ((hiAdd M l xx).length = k ∧ hiAdd M l xx = (l ++ [xx]).drop 1) := Lib.hid (by
          have e : hiAdd M l xx = (l ++ [xx]).drop 1 := by unfold hiAdd; rw [HLN.out, if_pos hful]
          rw [e]
          refine ⟨?_, rfl⟩
          rw [List.length_drop, List.length_append, HLN.out]
          simp)
        clear hfr
        clear hO5'
        go_upto_region 11 with fail
        have ho6 := (Only.refl g0 w5).setCell 3 (.slice (some ⟨g5, off5 + 4, none⟩) k (cap5 - 1))
        have hX0_6 := at4h_set3 hX0_5 (.slice (some ⟨g5, off5 + 4, none⟩) k (cap5 - 1))
        have hX1_6 := hX1_5.only hne10 ho6
        have hO6 := hOy.onlyH hX0_5 ho6 (by decide)
        have hb6 := hb5.trans (ho6.below (Nat.le_refl _))
        generalize w5.setCell ⟨g0, 3, none⟩ (.slice (some ⟨g5, off5 + 4, none⟩) k (cap5 - 1)) = w6 at hX0_6 hX1_6 hO6 hb6 ⊢
        clear ho6 hX0_5 hX1_5 hOy hb5
        obtain ⟨_, _, _, _⟩ := hX0_6.cells
        obtain ⟨_, _, _, _⟩ := hX1_6.cells
        obtain ⟨_, _, _, _⟩ := hX1_6.frees
        have ho7 := put4_only w6 g1 (.int .i64 M) (.int .i64 T) (.int .i64 G) (.slice (some ⟨g5, off5 + 4, none⟩) k (cap5 - 1))
        have HO7 := Lib.hid (hO6.onlyH hX1_6 ho7 (by decide))
        have hZ := at4_put hX1_6 (.int .i64 M) (.int .i64 T) (.int .i64 G) (.slice (some ⟨g5, off5 + 4, none⟩) k (cap5 - 1))
        have HBZ := Lib.hid (hb6.trans (ho7.below hle1))
        obtain ⟨d0, d1, d2, d3⟩ := hZ.cells
        clear hO6 hZ hb6
        go_wp2_with fail
        generalize ((((w6.setCell ⟨g1, 0, none⟩ (.int .i64 M)).setCell ⟨g1, 1, none⟩ (.int .i64 T)).setCell ⟨g1, 2, none⟩ (.int .i64 G)).setCell ⟨g1, 3, none⟩ (.slice (some ⟨g5, off5 + 4, none⟩) k (cap5 - 1))) = w7 at HO7 HBZ d0 d1 d2 d3 ⊢
        refine bodyPost_ret (v := .tuple #[.agg #[.int .i64 M, .int .i64 T, .int .i64 G, .slice (some ⟨g5, off5 + 4, none⟩) k (cap5 - 1)], .bool true]) (by simp [results, Try.results61, go_sem, d0, d1, d2, d3]) rfl ⟨.slice (some ⟨g5, off5 + 4, none⟩) k (cap5 - 1), rfl, by rw [HXX.out, HAD.out.1, HAD.out.2]; exact HO7.out, by rw [HG.out]; exact HBZ.out⟩
      · have hOy := hO5'.base (Nat.zero_le _)
        have hd : decide (M < (k : Int) + 1) = false := decide_eq_false hful
        have HAD : Hid ((hiAdd M l xx).length = k + 1 ∧ hiAdd M l xx = l ++ [xx]) := Lib.hid (by
          have e : hiAdd M l xx = l ++ [xx] := by unfold hiAdd; rw [HLN.out, if_neg hful]
          rw [e]
          refine ⟨?_, rfl⟩
          rw [List.length_append, HLN.out]
          rfl)
        clear hO5'
        go_upto_region 11 with fail
        have ho6 := (Only.refl g0 w5).setCell 3 (.slice (some ⟨g5, off5, none⟩) (k + 1) cap5)
        have hX0_6 := at4h_set3 hX0_5 (.slice (some ⟨g5, off5, none⟩) (k + 1) cap5)
        have hX1_6 := hX1_5.only hne10 ho6
        have hO6 := hOy.onlyH hX0_5 ho6 (by decide)
        have hb6 := hb5.trans (ho6.below (Nat.le_refl _))
        generalize w5.setCell ⟨g0, 3, none⟩ (.slice (some ⟨g5, off5, none⟩) (k + 1) cap5) = w6 at hX0_6 hX1_6 hO6 hb6 ⊢
        clear ho6 hX0_5 hX1_5 hOy hb5
        obtain ⟨_, _, _, _⟩ := hX0_6.cells
        obtain ⟨_, _, _, _⟩ := hX1_6.cells
        obtain ⟨_, _, _, _⟩ := hX1_6.frees
        have ho7 := put4_only w6 g1 (.int .i64 M) (.int .i64 T) (.int .i64 G) (.slice (some ⟨g5, off5, none⟩) (k + 1) cap5)
        have HO7 := Lib.hid (hO6.onlyH hX1_6 ho7 (by decide))
        have hZ := at4_put hX1_6 (.int .i64 M) (.int .i64 T) (.int .i64 G) (.slice (some ⟨g5, off5, none⟩) (k + 1) cap5)
        have HBZ := Lib.hid (hb6.trans (ho7.below hle1))
        obtain ⟨d0, d1, d2, d3⟩ := hZ.cells
        clear hO6 hZ hb6
        go_wp2_with fail
        generalize ((((w6.setCell ⟨g1, 0, none⟩ (.int .i64 M)).setCell ⟨g1, 1, none⟩ (.int .i64 T)).setCell ⟨g1, 2, none⟩ (.int .i64 G)).setCell ⟨g1, 3, none⟩ (.slice (some ⟨g5, off5, none⟩) (k + 1) cap5)) = w7 at HO7 HBZ d0 d1 d2 d3 ⊢
        refine bodyPost_ret (v := .tuple #[.agg #[.int .i64 M, .int .i64 T, .int .i64 G, .slice (some ⟨g5, off5, none⟩) (k + 1) cap5], .bool true]) (by simp [results, Try.results61, go_sem, d0, d1, d2, d3]) rfl ⟨.slice (some ⟨g5, off5, none⟩) (k + 1) cap5, rfl, by rw [HXX.out, HAD.out.1, HAD.out.2]; exact HO7.out, by rw [HG.out]; exact HBZ.out⟩
set_option maxRecDepth 100000 in
set_option maxHeartbeats 3200000 in
theorem refHPutNo {w : World} {vl : Value} {l : List HR} {n : Nat} (M T G : Int) (s p : Int) (d : ByteArray) (hL : OwnE w 0 125 4 vl n (hiV l)) (hn : n ≤ 65535) (hM : 1 ≤ M ∧ M ≤ 65535) (hok : hiOk s l = false) :
    Calls Try.prog 61 #[.agg #[.int .i64 M, .int .i64 T, .int .i64 G, vl], .int .i64 s, .int .i64 p, .string d] w fun e w' => e = .returned (.tuple #[.agg #[.int .i64 M, .int .i64 T, .int .i64 G, vl], .bool false]) ∧ Below w.heap.size w w' := by
  obtain ⟨a, cap, rfl, hnc, hcm, hln, hrd⟩ := hL.rdr
  unfold maxLen at hcm
  have hX0 := (at4_new 49 w w.heap.size (.int .i64 M) (.int .i64 T) (.int .i64 G) (.slice a n cap) rfl).alloc (.cells #[.int .i64 0, .int .i64 0, .int .i64 0, .slice none 0 0] 49)
  have hX1 := at4_new 49 (w.alloc (.cells #[.int .i64 M, .int .i64 T, .int .i64 G, .slice a n cap] 49)) (w.heap.size + 1) (.int .i64 0) (.int .i64 0) (.int .i64 0) (.slice none 0 0) (by simp)
  have hb : Below w.heap.size w ((w.alloc (.cells #[.int .i64 M, .int .i64 T, .int .i64 G, .slice a n cap] 49)).alloc (.cells #[.int .i64 0, .int .i64 0, .int .i64 0, .slice none 0 0] 49)) := ((Below.refl _ _).alloc (Nat.le_refl _) _).alloc (by simp) _
  go_enter Try.func61, Try.ntmps61
  go_upto_region 1 with fail
  generalize ((w.alloc (.cells #[.int .i64 M, .int .i64 T, .int .i64 G, .slice a n cap] 49)).alloc (.cells #[.int .i64 0, .int .i64 0, .int .i64 0, .slice none 0 0] 49)) = w2 at *
  have hrd2 := hrd.later hb
  have hL2 := Lib.hid (hL.later hb)
  generalize hg1 : w.heap.size + 1 = g1 at *
  generalize hg0 : w.heap.size = g0 at *
  have HG := Lib.hid hg0
  have hle1 : g0 ≤ g1 := by omega
  have hne01 : g0 ≠ g1 := by omega
  have hne10 : g1 ≠ g0 := by omega
  have hsz2 : g0 ≤ w2.heap.size := Nat.le_of_lt hX0.lt
  have HRw := Lib.hid (fun W (h : Below w2.heap.size w2 W) => hrd2.later h)
  have HX0 := Lib.hid (fun W (h : Below w2.heap.size w2 W) => hX0.later h)
  have HX1 := Lib.hid (fun W (h : Below w2.heap.size w2 W) => hX1.later h)
  have HLN := Lib.hid hln
  have HOK := Lib.hid hok
  obtain ⟨_, _, _, _⟩ := hX0.cells
  clear hg0 hg1 hL hrd hrd2 hln hok hX0 hX1
  go_wp2_with fail
  go_loopw [16] (fun i wr => ∃ k : Nat, k ≤ n ∧ i = .int .i64 k ∧ Hid (∀ j x, j < k → l[j]? = some x → x.s < s) ∧ Below w2.heap.size w2 wr) (fun i _ => n - (intOf i).toNat)
  case atStart => exact ⟨0, Nat.zero_le _, rfl, Lib.hid (fun j x hj => by omega), Below.refl _ _⟩
  case round =>
    obtain ⟨k, hk, rfl, hno, hbw⟩ := hrel
    by_cases hlt : k < n
    · obtain ⟨r, hr⟩ : ∃ r, l[k]? = some r := ⟨_, List.getElem?_eq_getElem (by have := HLN.out; omega)⟩
      obtain ⟨g, off, rfl, c0, c1, c2, c3⟩ := HRw.out wr hbw k r hr
      have HRR := Lib.hid hr
      have hX := at4_new 125 wr wr.heap.size (.int .i64 r.s) (.int .i64 r.t) (.int .i64 r.p) (.string r.d) rfl
      have hb3 := hbw.alloc hbw.size (.cells #[.int .i64 r.s, .int .i64 r.t, .int .i64 r.p, .string r.d] 125)
      clear hr
      go_upto_region 4 with fail
      generalize wr.alloc (.cells #[.int .i64 r.s, .int .i64 r.t, .int .i64 r.p, .string r.d] 125) = w3 at hX hb3 ⊢
      generalize wr.heap.size = g3 at hX ⊢
      clear hbw c0 c1 c2 c3
      obtain ⟨_, _, _, _⟩ := hX.cells
      by_cases he : s ≤ r.s

      · have hX0w := HX0.out w3 hb3
        have hX1w := HX1.out w3 hb3
        obtain ⟨_, _, _, _⟩ := hX0w.cells
        obtain ⟨_, _, _, _⟩ := hX1w.frees
        obtain ⟨_, _, _, _⟩ := hX1w.cells
        have hZ := at4_put hX1w (.int .i64 M) (.int .i64 T) (.int .i64 G) (.slice (some ⟨g, off, none⟩) n cap)
        have hbz := (hb.trans (hb3.mono hsz2)).trans ((put4_only w3 g1 (.int .i64 M) (.int .i64 T) (.int .i64 G) (.slice (some ⟨g, off, none⟩) n cap)).below hle1)
        obtain ⟨d0, d1, d2, d3⟩ := hZ.cells
        go_wp2_with fail
        refine bodyPost_ret (v := .tuple #[.agg #[.int .i64 M, .int .i64 T, .int .i64 G, .slice (some ⟨g, off, none⟩) n cap], .bool false]) (by simp [results, Try.results61, go_sem, d0, d1, d2, d3]) rfl ⟨rfl, by rw [HG.out]; exact hbz⟩
      · have HN : Hid (∀ j x, j < k + 1 → l[j]? = some x → x.s < s) := Lib.hid (fun j x hj hx => by
          rcases Nat.lt_or_ge j k with h | h
          · exact hno.out j x h hx
          · obtain rfl : j = k := by omega
            rw [HRR.out] at hx
            cases hx
            omega)
        go_wp2_with fail
        go_roundw
        case rel => exact ⟨k + 1, by omega, by go_num, HN, hb3⟩
        case measure => simp [intOf]; omega
    · obtain rfl : k = n := by omega
      exfalso
      have h1 := hiOk_all s l (by rw [HLN.out]; exact hno.out)
      rw [HOK.out] at h1
      cases h1
end Go.Proofs.Ytaekefedmobfoaa
