/- net: the document's New, All. -/
import Derived.Test.YtbmbomojnljccaaNeP1
import Derived.Test.YtbmbomojnljccaaReA
namespace Go.Proofs.Ytbmbomojnljccaa
open Go.RowKit Go.Maps
set_option linter.unusedVariables false
set_option linter.unusedSimpArgs false
/-- A datagram of the document's. -/
structure OD where
  a : Int
  p : Int
  s : ByteArray
def OD.rs (r : OD) : List Value := [.int .i64 r.a, .int .i64 r.p, .string r.s]
theorem OD.rs_len (r : OD) : r.rs.length = 3 := rfl
theorem OD.rs_one (r : OD) : ∀ u ∈ r.rs, u.oneCell' = true := by
  intro u hu
  unfold OD.rs at hu
  simp only [List.mem_cons, List.not_mem_nil, or_false] at hu
  rcases hu with rfl | rfl | rfl <;> rfl
def odV (l : List OD) : List Value := rowsV OD.rs l
theorem odV_len (l : List OD) : (odV l).length = l.length * 3 := rowsV_len OD.rs_len l
theorem odV_snoc (l : List OD) (r : OD) : odV (l ++ [r]) = odV l ++ r.rs := rowsV_snoc l r
theorem odV_one (l : List OD) : ∀ u ∈ odV l, u.oneCell' = true := rowsV_one OD.rs_one l
/-- Is it there? -/
def odIs (a p : Int) (o : OD) : Bool := decide (o.a = a) && decide (o.p = p)
/-- The texts that are there. -/
def odG (l : List OD) (a p : Int) : List ByteArray := (l.filter (odIs a p)).map OD.s
theorem odG_nil (a p : Int) : odG [] a p = [] := rfl
theorem odG_snoc (l : List OD) (r : OD) (a p : Int) : odG (l ++ [r]) a p = odG l a p ++ if odIs a p r = true then [r.s] else [] := by
  unfold odG
  rw [List.filter_append]
  by_cases h : odIs a p r = true
  · simp [h]
  · simp [h]
theorem odG_take (l : List OD) (a p : Int) (k : Nat) (r : OD) (h : l[k]? = some r) : odG (l.take (k + 1)) a p = odG (l.take k) a p ++ if odIs a p r = true then [r.s] else [] := by
  rw [List.take_add_one, h]
  exact odG_snoc _ _ _ _
theorem odG_le (l : List OD) (a p : Int) : (odG l a p).length ≤ l.length := by
  unfold odG
  rw [List.length_map]
  exact List.length_filter_le _ _
/-- The document's Net, as a value. -/
def neRv (m b : Int) (v : Value) (c0 c1 c2 c3 c4 c5 : Int) : Value := .agg #[.int .i64 m, .int .i64 b, v, .int .i64 c0, .int .i64 c1, .int .i64 c2, .int .i64 c3, .int .i64 c4, .int .i64 c5]
section
variable {T : TypeId} {W : World} {g : Nat} {c0 c1 c2 c3 c4 c5 c6 c7 c8 : Value}
theorem atQ9_set0 (h : AtQ T W g #[c0, c1, c2, c3, c4, c5, c6, c7, c8]) (u : Value) : AtQ T (W.setCell ⟨g, 0, none⟩ u) g #[u, c1, c2, c3, c4, c5, c6, c7, c8] := block_setCell h
theorem atQ9_set1 (h : AtQ T W g #[c0, c1, c2, c3, c4, c5, c6, c7, c8]) (u : Value) : AtQ T (W.setCell ⟨g, 1, none⟩ u) g #[c0, u, c2, c3, c4, c5, c6, c7, c8] := block_setCell h
theorem atQ9_set2 (h : AtQ T W g #[c0, c1, c2, c3, c4, c5, c6, c7, c8]) (u : Value) : AtQ T (W.setCell ⟨g, 2, none⟩ u) g #[c0, c1, u, c3, c4, c5, c6, c7, c8] := block_setCell h
theorem atQ9_set3 (h : AtQ T W g #[c0, c1, c2, c3, c4, c5, c6, c7, c8]) (u : Value) : AtQ T (W.setCell ⟨g, 3, none⟩ u) g #[c0, c1, c2, u, c4, c5, c6, c7, c8] := block_setCell h
theorem atQ9_set4 (h : AtQ T W g #[c0, c1, c2, c3, c4, c5, c6, c7, c8]) (u : Value) : AtQ T (W.setCell ⟨g, 4, none⟩ u) g #[c0, c1, c2, c3, u, c5, c6, c7, c8] := block_setCell h
theorem atQ9_set5 (h : AtQ T W g #[c0, c1, c2, c3, c4, c5, c6, c7, c8]) (u : Value) : AtQ T (W.setCell ⟨g, 5, none⟩ u) g #[c0, c1, c2, c3, c4, u, c6, c7, c8] := block_setCell h
theorem atQ9_set6 (h : AtQ T W g #[c0, c1, c2, c3, c4, c5, c6, c7, c8]) (u : Value) : AtQ T (W.setCell ⟨g, 6, none⟩ u) g #[c0, c1, c2, c3, c4, c5, u, c7, c8] := block_setCell h
theorem atQ9_set7 (h : AtQ T W g #[c0, c1, c2, c3, c4, c5, c6, c7, c8]) (u : Value) : AtQ T (W.setCell ⟨g, 7, none⟩ u) g #[c0, c1, c2, c3, c4, c5, c6, u, c8] := block_setCell h
theorem atQ9_set8 (h : AtQ T W g #[c0, c1, c2, c3, c4, c5, c6, c7, c8]) (u : Value) : AtQ T (W.setCell ⟨g, 8, none⟩ u) g #[c0, c1, c2, c3, c4, c5, c6, c7, u] := block_setCell h
theorem atQ9_put (h : AtQ T W g #[c0, c1, c2, c3, c4, c5, c6, c7, c8]) (d0 d1 d2 d3 d4 d5 d6 d7 d8 : Value) : AtQ T (((((((((W.setCell ⟨g, 0, none⟩ d0).setCell ⟨g, 1, none⟩ d1).setCell ⟨g, 2, none⟩ d2).setCell ⟨g, 3, none⟩ d3).setCell ⟨g, 4, none⟩ d4).setCell ⟨g, 5, none⟩ d5).setCell ⟨g, 6, none⟩ d6).setCell ⟨g, 7, none⟩ d7).setCell ⟨g, 8, none⟩ d8) g #[d0, d1, d2, d3, d4, d5, d6, d7, d8] := (atQ9_set8 (atQ9_set7 (atQ9_set6 (atQ9_set5 (atQ9_set4 (atQ9_set3 (atQ9_set2 (atQ9_set1 (atQ9_set0 h d0) d1) d2) d3) d4) d5) d6) d7) d8)
theorem AtQ.frees9 {cs : Array Value} (h : AtQ T W g cs) : W.frozen? ⟨g, 0, none⟩ = false ∧ W.frozen? ⟨g, 1, none⟩ = false ∧ W.frozen? ⟨g, 2, none⟩ = false ∧ W.frozen? ⟨g, 3, none⟩ = false ∧ W.frozen? ⟨g, 4, none⟩ = false ∧ W.frozen? ⟨g, 5, none⟩ = false ∧ W.frozen? ⟨g, 6, none⟩ = false ∧ W.frozen? ⟨g, 7, none⟩ = false ∧ W.frozen? ⟨g, 8, none⟩ = false := ⟨h.free 0, h.free 1, h.free 2, h.free 3, h.free 4, h.free 5, h.free 6, h.free 7, h.free 8⟩
theorem AtQ.cells3 (h : AtQ T W g #[c0, c1, c2]) : W.cell? ⟨g, 0, none⟩ = some c0 ∧ W.cell? ⟨g, 1, none⟩ = some c1 ∧ W.cell? ⟨g, 2, none⟩ = some c2 := by
  have f := h.cell
  exact ⟨by simpa using f 0, by simpa using f 1, by simpa using f 2⟩
theorem put9_only (W : World) (g : Nat) (d0 d1 d2 d3 d4 d5 d6 d7 d8 : Value) : Only g W (((((((((W.setCell ⟨g, 0, none⟩ d0).setCell ⟨g, 1, none⟩ d1).setCell ⟨g, 2, none⟩ d2).setCell ⟨g, 3, none⟩ d3).setCell ⟨g, 4, none⟩ d4).setCell ⟨g, 5, none⟩ d5).setCell ⟨g, 6, none⟩ d6).setCell ⟨g, 7, none⟩ d7).setCell ⟨g, 8, none⟩ d8) :=
  (((((((((Only.refl g W).setCell 0 d0).setCell 1 d1).setCell 2 d2).setCell 3 d3).setCell 4 d4).setCell 5 d5).setCell 6 d6).setCell 7 d7).setCell 8 d8
end
theorem neM_alt (n : Int) : max 1 (min n 1024) = am 1 n 1024 := by unfold am; omega
theorem neB_alt (n : Int) : max 1 (min n 16777216) = am 1 n 16777216 := by unfold am; omega
set_option maxRecDepth 100000 in
set_option maxHeartbeats 1600000 in
theorem refNeNew_any (m b : Int) (w : World) : Calls Try.prog 8 #[.int .i64 m, .int .i64 b] w fun e w' => e = .returned (neRv (am 1 m 1024) (am 1 b 16777216) (.slice none 0 0) 0 0 0 0 0 0) ∧ Below w.heap.size w w' := by
  rw [← neM_alt m, ← neB_alt b]
  unfold neRv
  have hX0 := atQ_new 34 w w.heap.size #[.int .i64 0, .int .i64 0, .slice none 0 0, .int .i64 0, .int .i64 0, .int .i64 0, .int .i64 0, .int .i64 0, .int .i64 0] rfl
  have hb : Below w.heap.size w (w.alloc (.cells #[.int .i64 0, .int .i64 0, .slice none 0 0, .int .i64 0, .int .i64 0, .int .i64 0, .int .i64 0, .int .i64 0, .int .i64 0] 34)) := (Below.refl _ _).alloc (Nat.le_refl _) _
  go_enter Try.func8, Try.ntmps8
  go_upto_region 1 with fail
  generalize (w.alloc (.cells #[.int .i64 0, .int .i64 0, .slice none 0 0, .int .i64 0, .int .i64 0, .int .i64 0, .int .i64 0, .int .i64 0, .int .i64 0] 34)) = w2 at hX0 hb ⊢
  generalize hg0 : w.heap.size = g0 at hX0 hb ⊢
  have HG := Lib.hid hg0
  clear hg0
  obtain ⟨_, _, _, _, _, _, _, _, _⟩ := hX0.frees9
  obtain ⟨_, _, _, _, _, _, _, _, _⟩ := hX0.cells9
  have hZ := atQ9_put hX0 (.int .i64 (max 1 (min m 1024))) (.int .i64 (max 1 (min b 16777216))) (.slice none 0 0) (.int .i64 0) (.int .i64 0) (.int .i64 0) (.int .i64 0) (.int .i64 0) (.int .i64 0)
  have hbz := hb.trans ((put9_only w2 g0 (.int .i64 (max 1 (min m 1024))) (.int .i64 (max 1 (min b 16777216))) (.slice none 0 0) (.int .i64 0) (.int .i64 0) (.int .i64 0) (.int .i64 0) (.int .i64 0) (.int .i64 0)).below (Nat.le_refl _))
  obtain ⟨d0, d1, d2, d3, d4, d5, d6, d7, d8⟩ := hZ.cells9
  go_wp2_with fail
  refine bodyPost_ret (v := .agg #[.int .i64 (max 1 (min m 1024)), .int .i64 (max 1 (min b 16777216)), .slice none 0 0, .int .i64 0, .int .i64 0, .int .i64 0, .int .i64 0, .int .i64 0, .int .i64 0]) (by simp [results, Try.results8, go_sem, d0, d1, d2, d3, d4, d5, d6, d7, d8]) rfl ⟨rfl, by rw [HG.out]; exact hbz⟩
/-- The document's datagrams in memory. -/
def RdO (W : World) (a : Option Addr) (l : List OD) : Prop := ∀ i r, l[i]? = some r → ∃ g off, a = some ⟨g, off, none⟩ ∧ W.cell? ⟨g, off + i * 3, none⟩ = some (.int .i64 r.a) ∧ W.cell? ⟨g, off + i * 3 + 1, none⟩ = some (.int .i64 r.p) ∧ W.cell? ⟨g, off + i * 3 + 2, none⟩ = some (.string r.s)
theorem RdO.later {W W' : World} {a : Option Addr} {l : List OD} (h : RdO W a l) (hb : Below W.heap.size W W') : RdO W' a l := fun i r hr => by
  obtain ⟨g, off, e, h0, h1, h2⟩ := h i r hr
  exact ⟨g, off, e, cell_keep h0 hb, cell_keep h1 hb, cell_keep h2 hb⟩
theorem OwnE.rdo {W : World} {b : Nat} {e : TypeId} {v : Value} {n : Nat} {l : List OD} (h : OwnE W b e 3 v n (odV l)) : ∃ a cap, v = .slice a n cap ∧ n ≤ cap ∧ cap ≤ maxLen ∧ l.length = n ∧ RdO W a l := by
  have hn : l.length = n := by have := h.1.1; rw [odV_len] at this; omega
  rcases h.1.2 with ⟨rfl, h0⟩ | ⟨g, off, cap, rfl, _, _, h1, h2, _, hc⟩
  · refine ⟨none, 0, by rw [h0], by omega, Nat.zero_le _, hn, fun i r hr => ?_⟩
    have := (List.getElem?_eq_some_iff.1 hr).1
    omega
  · refine ⟨_, _, rfl, h1, h2, hn, fun i r hr => ⟨g, off, rfl, ?_⟩⟩
    have f := fun j u hj => hc _ u (rowsV_at OD.rs_len l i r hr j u hj)
    refine ⟨?_, ?_, ?_⟩
    · exact f 0 _ rfl
    · rw [Nat.add_assoc]; exact f 1 _ rfl
    · rw [Nat.add_assoc]; exact f 2 _ rfl
set_option maxRecDepth 100000 in
set_option maxHeartbeats 3200000 in
theorem refNeAll_any {w : World} {vl : Value} {l : List OD} {n : Nat} (m b c0 c1 c2 c3 c4 c5 a p : Int) (hL : OwnE w 0 84 3 vl n (odV l)) (hn : n ≤ 65535) :
    Calls Try.prog 30 #[neRv m b vl c0 c1 c2 c3 c4 c5, .int .i64 a, .int .i64 p] w fun e w' => ∃ v', e = .returned v' ∧ OwnE w' w.heap.size 9 1 v' (odG l a p).length (neV (odG l a p)) ∧ Below w.heap.size w w' := by
  unfold neRv
  obtain ⟨ax, cap, rfl, hnc, hcm, hln, hrd⟩ := hL.rdo
  obtain ⟨i0, hi, hz0, hz1, hz2⟩ := info_parts info_strN
  unfold maxLen at hcm
  have hX0 := atQ_new 34 w w.heap.size #[.int .i64 m, .int .i64 b, .slice ax n cap, .int .i64 c0, .int .i64 c1, .int .i64 c2, .int .i64 c3, .int .i64 c4, .int .i64 c5] rfl
  have hb : Below w.heap.size w (w.alloc (.cells #[.int .i64 m, .int .i64 b, .slice ax n cap, .int .i64 c0, .int .i64 c1, .int .i64 c2, .int .i64 c3, .int .i64 c4, .int .i64 c5] 34)) := (Below.refl _ _).alloc (Nat.le_refl _) _
  go_enter Try.func30, Try.ntmps30
  go_upto_region 1 with fail
  generalize (w.alloc (.cells #[.int .i64 m, .int .i64 b, .slice ax n cap, .int .i64 c0, .int .i64 c1, .int .i64 c2, .int .i64 c3, .int .i64 c4, .int .i64 c5] 34)) = w2 at hX0 hb ⊢
  have hrd2 := hrd.later hb
  generalize hg0 : w.heap.size = g0 at *
  have HG := Lib.hid hg0
  have hsz2 : g0 ≤ w2.heap.size := Nat.le_of_lt hX0.lt
  clear hg0 hL hrd
  have hal : Below w2.heap.size w2 (w2.alloc (.cells #[] 9)) := (Below.refl _ _).alloc (Nat.le_refl _) _
  have hE : OwnE (w2.alloc (.cells #[] 9)) w2.heap.size 9 1 (.slice (some ⟨w2.heap.size, 0, none⟩) 0 0) 0 (neV []) := ownE_of (World.ownsRow_lit w2 #[] 0 (Nat.le_refl _) (Nat.zero_le _) rfl)
  have HR := Lib.hid (fun W (h : Below w2.heap.size w2 W) => hrd2.later h)
  have HFt := Lib.hid (odG_take l a p)
  have HFl := Lib.hid (odG_le)
  have HLN := Lib.hid hln
  obtain ⟨_, _, _, _, _, _, _, _, _⟩ := (hX0.later hal).cells9
  go_upto_region 2 with fail
  generalize hw3 : w2.alloc (.cells #[] 9) = w3 at *
  clear hX0 hrd2 hln hw3
  go_wp2_with fail
  go_loopw [7, 14] (fun vk i wr => ∃ k : Nat, k ≤ n ∧ i = .int .i64 k ∧ OwnE wr w2.heap.size 9 1 vk (odG (l.take k) a p).length (neV (odG (l.take k) a p)) ∧ Below w2.heap.size w2 wr) (fun _ i _ => n - (intOf i).toNat)
  case atStart => exact ⟨0, Nat.zero_le _, rfl, hE, hal⟩
  case round =>
    obtain ⟨k, hk, rfl, hO, hbw⟩ := hrel
    clear hE hal
    by_cases hlt : k < n
    · obtain ⟨r, hr⟩ : ∃ r, l[k]? = some r := ⟨_, List.getElem?_eq_getElem (by have := HLN.out; omega)⟩
      obtain ⟨g, off, rfl, e0, e1, e2⟩ := HR.out wr hbw k r hr
      have HK1 := Lib.hid (HFt.out k r hr)
      have hkl : (odG (l.take k) a p).length ≤ k := Nat.le_trans (HFl.out _ _ _) (by rw [List.length_take]; omega)
      obtain ⟨ra, rp, rs⟩ := r
      have hX := atQ_new 84 wr wr.heap.size #[.int .i64 ra, .int .i64 rp, .string rs] rfl
      have hb3 := hbw.alloc hbw.size (.cells #[.int .i64 ra, .int .i64 rp, .string rs] 84)
      have hO3 := hO.alloc (.cells #[.int .i64 ra, .int .i64 rp, .string rs] 84)
      clear hr
      go_upto_region 5 with fail
      generalize wr.alloc (.cells #[.int .i64 ra, .int .i64 rp, .string rs] 84) = w4 at hX hb3 hO3 ⊢
      generalize wr.heap.size = g4 at hX ⊢
      clear hbw hO e0 e1 e2
      obtain ⟨_, _, _⟩ := hX.cells3
      unfold odIs at HK1
      simp only at HK1
      by_cases he : ra = a
      · by_cases he2 : rp = p
        · have HK2 : Hid (odG (l.take (k + 1)) a p = odG (l.take k) a p ++ [rs]) := Lib.hid (by rw [HK1.out, if_pos (by simp [he, he2])])
          clear HK1
          have HE := Lib.hid (And.intro he he2)
          have hd1 : (ra == a) = true := by simpa using he
          have hd2 : (rp == p) = true := by simpa using he2
          clear he he2
          generalize odG (l.take k) a p = xs at *
          go_wp2_with (at_builtin; refine append_recG (W := w2) rfl (.tmp 28) (.tmp 31) 56 rfl 9 i0 (.string ⟨#[]⟩) 1 16 Try.underlying56 hi hz0 hz1 hz2 rfl (by decide) w2.heap.size _ xs.length (neV xs) rfl hO3 #[.string rs] rfl rfl ?d0 ?d1 ?d2 hb3.size w2.heap.size (Nat.le_refl _) hb3 ?_)
          case d0 => rfl
          case d1 => unfold maxLen; omega
          case d2 => omega
          intro v5 w5 hO5 hb5 _ _
          go_wp2_with fail
          go_roundw
          case rel => exact ⟨k + 1, by omega, by go_num, by rw [HK2.out, neV_app, List.length_append]; exact hO5, hb5⟩
          case measure => simp [intOf]; omega
        · have HK2 : Hid (odG (l.take (k + 1)) a p = odG (l.take k) a p) := Lib.hid (by rw [HK1.out, if_neg (by simp [he2]), List.append_nil])
          have hd1 : (ra == a) = true := by simpa using he
          have hd2 : (rp == p) = false := by simpa using he2
          clear HK1 he he2
          go_wp2_with fail
          go_roundw
          case rel => exact ⟨k + 1, by omega, by go_num, by rw [HK2.out]; exact hO3, hb3⟩
          case measure => simp [intOf]; omega
      · have HK2 : Hid (odG (l.take (k + 1)) a p = odG (l.take k) a p) := Lib.hid (by rw [HK1.out, if_neg (by simp [he]), List.append_nil])
        have hd1 : (ra == a) = false := by simpa using he
        clear HK1 he
        go_wp2_with fail
        go_roundw
        case rel => exact ⟨k + 1, by omega, by go_num, by rw [HK2.out]; exact hO3, hb3⟩
        case measure => simp [intOf]; omega
    · obtain rfl : k = n := by omega
      have HT : Hid (l.take l.length = l) := Lib.hid (List.take_length ..)
      have HLN2 := HLN.out
      subst HLN2
      rw [HT.out] at hO
      go_wp2_with fail
      go_ret
      exact ⟨_, rfl, hO.base (by rw [HG.out]; exact hsz2), by rw [HG.out]; exact hb.trans (hbw.mono hsz2)⟩
end Go.Proofs.Ytbmbomojnljccaa
