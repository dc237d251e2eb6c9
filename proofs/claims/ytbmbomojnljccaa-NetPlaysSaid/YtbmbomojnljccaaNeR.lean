/- net: the document's put. -/
import Derived.Test.YtbmbomojnljccaaNeQ
import Derived.Test.YtbmbomojnljccaaNeF
namespace Go.Proofs.Ytbmbomojnljccaa
open Go.RowKit Go.Maps
set_option linter.unusedVariables false
set_option linter.unusedSimpArgs false
theorem info_one : (Try.prog.info? 84).map (fun i => (i.zero, i.size, i.bytes)) = some (some (.agg #[.int .i64 0, .int .i64 0, .string ByteArray.empty]), 3, 32) := by kernel_rfl
/-- May it be put? -/
def neMay (m b : Int) (G : List ByteArray) (a p : Int) (s : ByteArray) : Bool := neIs a p && decide (s.size ≠ 0) && decide (s.size ≤ 1500) && (decide ((G.length : Int) < m) && decide ((s.size : Int) + neSum G ≤ b))
theorem neMay_no {m b a p : Int} {G : List ByteArray} {s : ByteArray} (h : a < 0 ∨ 1 < a ∨ p < 1 ∨ 15 < p ∨ s.size = 0 ∨ 1500 < s.size ∨ m ≤ (G.length : Int) ∨ b < (s.size : Int) + neSum G) : neMay m b G a p s = false := by
  unfold neMay neIs
  rw [Bool.eq_false_iff]
  intro e
  simp only [Bool.and_eq_true, Bool.or_eq_true, decide_eq_true_eq] at e
  omega
theorem neMay_yes {m b a p : Int} {G : List ByteArray} {s : ByteArray} (h : ¬ a < 0 ∧ ¬ 1 < a ∧ ¬ p < 1 ∧ ¬ 15 < p ∧ s.size ≠ 0 ∧ ¬ 1500 < s.size ∧ ¬ m ≤ (G.length : Int) ∧ ¬ b < (s.size : Int) + neSum G) : neMay m b G a p s = true := by
  unfold neMay neIs
  simp only [Bool.and_eq_true, Bool.or_eq_true, decide_eq_true_eq]
  omega
def odPut (y : Bool) (l : List OD) (a p : Int) (s : ByteArray) : List OD := if y = true then l ++ [⟨a, p, s⟩] else l
theorem neSum_take (l : List ByteArray) (k : Nat) (s : ByteArray) (h : l[k]? = some s) : neSum (l.take (k + 1)) = neSum (l.take k) + s.size := by
  unfold neSum
  rw [List.take_add_one, h]
  simp
theorem neSum_takeLe (l : List ByteArray) (k : Nat) : neSum (l.take k) ≤ neSum l := by
  have e : neSum l = neSum (l.take k) + neSum (l.drop k) := by
    conv => lhs; rw [← List.take_append_drop k l]
    unfold neSum
    rw [List.map_append, List.sum_append]
  omega
theorem odG_mem {l : List OD} {a p : Int} {s : ByteArray} (h : s ∈ odG l a p) : ∃ o ∈ l, o.s = s := by
  unfold odG at h
  obtain ⟨o, ho, rfl⟩ := List.mem_map.1 h
  exact ⟨o, (List.mem_filter.1 ho).1, rfl⟩
theorem OwnE.tx {W : World} {b n : Nat} {v : Value} {l : List ByteArray} (h : OwnE W b 9 1 v n (neV l)) : ∃ xa c, v = .slice xa n c ∧ l.length = n ∧ n ≤ maxLen ∧ ∀ k s, l[k]? = some s → ∃ g off, xa = some ⟨g, off, none⟩ ∧ W.cell? ⟨g, off + k, none⟩ = some (.string s) := by
  have hn : l.length = n := by have := h.1.1; rw [neV_len] at this; omega
  rcases h.1.2 with ⟨rfl, h0⟩ | ⟨g, off, cap, rfl, _, _, h1, h2, _, hc⟩
  · refine ⟨none, 0, by rw [h0], hn, by omega, fun k s hk => ?_⟩
    have := (List.getElem?_eq_some_iff.1 hk).1
    omega
  · refine ⟨_, _, rfl, hn, by omega, fun k s hk => ⟨g, off, rfl, ?_⟩⟩
    exact hc k _ (by unfold neV; rw [List.getElem?_map, hk]; rfl)
set_option maxRecDepth 100000 in
set_option maxHeartbeats 6400000 in
theorem refNePut_any {w : World} {vl : Value} {l : List OD} {n : Nat} (m b c0 c1 c2 c3 c4 c5 a p : Int) (s : ByteArray) (hL : OwnE w 0 84 3 vl n (odV l)) (hn : n ≤ 65535) (hx : ∀ o ∈ l, o.s.size ≤ 1500) (hs : s.size ≤ 1099511627776) :
    Calls Try.prog 39 #[neRv m b vl c0 c1 c2 c3 c4 c5, .int .i64 a, .int .i64 p, .string s] w fun e w' => ∃ v', e = .returned (.tuple #[neRv m b v' c0 c1 c2 c3 c4 c5, .bool (neMay m b (odG l a p) a p s)]) ∧ OwnE w' 0 84 3 v' (odPut (neMay m b (odG l a p) a p s) l a p s).length (odV (odPut (neMay m b (odG l a p) a p s) l a p s)) ∧ Below w.heap.size w w' := by
  have HNo := Lib.hid (@neMay_no m b a p (odG l a p) s)
  have HYes := Lib.hid (@neMay_yes m b a p (odG l a p) s)
  have HTot := Lib.hid (show neSum (odG l a p) ≤ 1500 * 65535 from by
    have h1 := neSum_le (l := odG l a p) (fun t ht => by obtain ⟨o, ho, rfl⟩ := odG_mem ht; exact hx o ho)
    have h2 := odG_le l a p
    have h3 : l.length = n := by have := hL.1.1; rw [odV_len] at this; omega
    omega)
  have HGl := Lib.hid (odG_le l a p)
  generalize hy : neMay m b (odG l a p) a p s = y at *
  have HY := Lib.hid hy
  clear hy
  clear hx
  unfold neRv
  obtain ⟨ax, cap, rfl, hnc, hcm, hln, _⟩ := hL.rdo
  have HLN := Lib.hid hln
  obtain ⟨i0, hi, hz0, hz1, hz2⟩ := info_parts info_one
  unfold maxLen at hcm
  have hX0 := (atQ_new 34 w w.heap.size #[.int .i64 m, .int .i64 b, .slice ax n cap, .int .i64 c0, .int .i64 c1, .int .i64 c2, .int .i64 c3, .int .i64 c4, .int .i64 c5] rfl).later (W' := ((w.alloc (.cells #[.int .i64 m, .int .i64 b, .slice ax n cap, .int .i64 c0, .int .i64 c1, .int .i64 c2, .int .i64 c3, .int .i64 c4, .int .i64 c5] 34)).alloc (.cells #[.int .i64 0, .int .i64 0, .slice none 0 0, .int .i64 0, .int .i64 0, .int .i64 0, .int .i64 0, .int .i64 0, .int .i64 0] 34))) ((Below.refl _ _).alloc (Nat.le_refl _) _)
  have hX1 := atQ_new 34 (w.alloc (.cells #[.int .i64 m, .int .i64 b, .slice ax n cap, .int .i64 c0, .int .i64 c1, .int .i64 c2, .int .i64 c3, .int .i64 c4, .int .i64 c5] 34)) (w.heap.size + 1) #[.int .i64 0, .int .i64 0, .slice none 0 0, .int .i64 0, .int .i64 0, .int .i64 0, .int .i64 0, .int .i64 0, .int .i64 0] (by simp)
  have hb : Below w.heap.size w ((w.alloc (.cells #[.int .i64 m, .int .i64 b, .slice ax n cap, .int .i64 c0, .int .i64 c1, .int .i64 c2, .int .i64 c3, .int .i64 c4, .int .i64 c5] 34)).alloc (.cells #[.int .i64 0, .int .i64 0, .slice none 0 0, .int .i64 0, .int .i64 0, .int .i64 0, .int .i64 0, .int .i64 0, .int .i64 0] 34)) := ((Below.refl _ _).alloc (Nat.le_refl _) _).alloc (by simp) _
  go_enter Try.func39, Try.ntmps39
  go_upto_region 1 with fail
  generalize ((w.alloc (.cells #[.int .i64 m, .int .i64 b, .slice ax n cap, .int .i64 c0, .int .i64 c1, .int .i64 c2, .int .i64 c3, .int .i64 c4, .int .i64 c5] 34)).alloc (.cells #[.int .i64 0, .int .i64 0, .slice none 0 0, .int .i64 0, .int .i64 0, .int .i64 0, .int .i64 0, .int .i64 0, .int .i64 0] 34)) = w2 at hX0 hX1 hb ⊢
  have hL2 := hL.later hb
  generalize hg1 : w.heap.size + 1 = g1 at *
  generalize hg0 : w.heap.size = g0 at *
  have HG := Lib.hid hg0
  have hle1 : g0 ≤ g1 := by omega
  have hne01 : g0 ≠ g1 := by omega
  have hne10 : g1 ≠ g0 := by omega
  have hsz2 : g0 ≤ w2.heap.size := Nat.le_of_lt hX0.lt
  clear hg0 hg1 hL hln
  obtain ⟨_, _, _, _, _, _, _, _, _⟩ := hX0.cells9
  have HA := Lib.hid (refNeAll_any m b c0 c1 c2 c3 c4 c5 a p hL2 hn)
  unfold neRv at HA
  go_wp2_with fail
  refine HA.out.mono ?_
  rintro e w3 ⟨va, rfl, hO, hb3⟩
  have hX0' := hX0.later hb3
  have hX1' := hX1.later hb3
  have hL3 := hL2.later hb3
  have hb3' := hb.trans (hb3.mono hsz2)
  clear hX0 hX1 hL2 HA hb
  obtain ⟨xa, xc, rfl, hll, hlm, hcl⟩ := hO.tx
  clear hO hll
  have HCL := Lib.hid hcl
  have HTk := Lib.hid (neSum_take (odG l a p))
  have HTl := Lib.hid (neSum_takeLe (odG l a p))
  have HT1 : Hid ((odG l a p).take (odG l a p).length = odG l a p) := Lib.hid (List.take_length ..)
  clear hcl
  have hgl := HGl.out
  have hGn : (odG l a p).length ≤ 65535 := by have := HLN.out; omega
  have HT0 : Hid (neSum ((odG l a p).take 0) = 0) := Lib.hid (by simp [neSum])
  generalize odG l a p = G at *
  obtain ⟨_, _, _, _, _, _, _, _, _⟩ := hX0'.cells9
  obtain ⟨_, _, _, _, _, _, _, _, _⟩ := hX0'.frees9
  obtain ⟨_, _, _, _, _, _, _, _, _⟩ := hX1'.frees9
  obtain ⟨_, _, _, _, _, _, _, _, _⟩ := hX1'.cells9
  go_wp2_with fail
  go_loop [11, 22] (fun t i => ∃ k : Nat, k ≤ G.length ∧ i = .int .i64 k ∧ t = .int .i64 ((s.size : Int) + neSum (G.take k))) (fun _ i => G.length - (intOf i).toNat)
  case atStart => exact ⟨0, Nat.zero_le _, rfl, by rw [HT0.out]; simp⟩
  case round =>
    obtain ⟨k, hk, rfl, rfl⟩ := hrel
    by_cases hlt : k < G.length
    · obtain ⟨t, ht⟩ : ∃ t, G[k]? = some t := ⟨_, List.getElem?_eq_getElem hlt⟩
      obtain ⟨g, off, rfl, hcell⟩ := HCL.out k t ht
      have HS1 := Lib.hid (HTk.out k t ht)
      have hS2 : neSum (G.take k) + t.size ≤ 1500 * 65535 := by have := HTl.out (k + 1); have := HTot.out; have := HS1.out; omega
      generalize neSum (G.take k) = tk at *
      have hwk : IntKind.i64.wrap ((s.size : Int) + tk + t.size) = (s.size : Int) + tk + t.size := IntWalk.i64_in _ ⟨by omega, by omega⟩
      have hwk2 : IntKind.i64.wrap ((s.size : Int) + (tk : Int) + (t.size : Int)) = (s.size : Int) + tk + t.size := hwk
      clear ht
      go_wp2_with fail
      go_round
      case rel => exact ⟨k + 1, by omega, by go_num, by rw [HS1.out]; push_cast; rw [Int.add_assoc]⟩
      case measure => simp [intOf]; omega
    · obtain rfl : k = G.length := by omega
      rw [HT1.out]
      clear hlt hk HTk HTl HCL
      by_cases q0 : a < 0
      · have e0 : decide (a < 0) = true := decide_eq_true q0
        obtain rfl : y = false := HNo.out (by exact .inl q0)
        have hZ := atQ9_put hX1' (.int .i64 m) (.int .i64 b) (.slice ax n cap) (.int .i64 c0) (.int .i64 c1) (.int .i64 c2) (.int .i64 c3) (.int .i64 c4) (.int .i64 c5)
        have hbz := hb3'.trans ((put9_only w3 g1 (.int .i64 m) (.int .i64 b) (.slice ax n cap) (.int .i64 c0) (.int .i64 c1) (.int .i64 c2) (.int .i64 c3) (.int .i64 c4) (.int .i64 c5)).below hle1)
        have hLz := hL3.keep (W' := (((((((((w3.setCell ⟨g1, 0, none⟩ (.int .i64 m)).setCell ⟨g1, 1, none⟩ (.int .i64 b)).setCell ⟨g1, 2, none⟩ (.slice ax n cap)).setCell ⟨g1, 3, none⟩ (.int .i64 c0)).setCell ⟨g1, 4, none⟩ (.int .i64 c1)).setCell ⟨g1, 5, none⟩ (.int .i64 c2)).setCell ⟨g1, 6, none⟩ (.int .i64 c3)).setCell ⟨g1, 7, none⟩ (.int .i64 c4)).setCell ⟨g1, 8, none⟩ (.int .i64 c5))) (by rw [(put9_only w3 g1 (.int .i64 m) (.int .i64 b) (.slice ax n cap) (.int .i64 c0) (.int .i64 c1) (.int .i64 c2) (.int .i64 c3) (.int .i64 c4) (.int .i64 c5)).size]; exact Nat.le_refl _) (fun k cs hk hc => (put9_only w3 g1 (.int .i64 m) (.int .i64 b) (.slice ax n cap) (.int .i64 c0) (.int .i64 c1) (.int .i64 c2) (.int .i64 c3) (.int .i64 c4) (.int .i64 c5)).block k (fun e' => by
          subst e'
          exact blkQ_ne (T := 84) (T' := 34) hc hX1' (by decide) rfl))
        obtain ⟨d0, d1, d2, d3, d4, d5, d6, d7, d8⟩ := hZ.cells9
        have HBZ := Lib.hid hbz
        have HLZ := Lib.hid hLz
        clear hZ hbz hLz HNo HYes HTot hL3 hX0' hX1' hb3'
        go_wp2_with fail
        refine bodyPost_ret (v := .tuple #[.agg #[.int .i64 m, .int .i64 b, .slice ax n cap, .int .i64 c0, .int .i64 c1, .int .i64 c2, .int .i64 c3, .int .i64 c4, .int .i64 c5], .bool false]) (by simp [results, Try.results39, go_sem, d0, d1, d2, d3, d4, d5, d6, d7, d8]) rfl ⟨_, rfl, by rw [odPut, if_neg (by decide), HLN.out]; exact HLZ.out, by rw [HG.out]; exact HBZ.out⟩
      · have e0 : decide (a < 0) = false := decide_eq_false q0
        by_cases q1 : 1 < a
        · have e1 : decide (1 < a) = true := decide_eq_true q1
          obtain rfl : y = false := HNo.out (by exact .inr (.inl q1))
          have hZ := atQ9_put hX1' (.int .i64 m) (.int .i64 b) (.slice ax n cap) (.int .i64 c0) (.int .i64 c1) (.int .i64 c2) (.int .i64 c3) (.int .i64 c4) (.int .i64 c5)
          have hbz := hb3'.trans ((put9_only w3 g1 (.int .i64 m) (.int .i64 b) (.slice ax n cap) (.int .i64 c0) (.int .i64 c1) (.int .i64 c2) (.int .i64 c3) (.int .i64 c4) (.int .i64 c5)).below hle1)
          have hLz := hL3.keep (W' := (((((((((w3.setCell ⟨g1, 0, none⟩ (.int .i64 m)).setCell ⟨g1, 1, none⟩ (.int .i64 b)).setCell ⟨g1, 2, none⟩ (.slice ax n cap)).setCell ⟨g1, 3, none⟩ (.int .i64 c0)).setCell ⟨g1, 4, none⟩ (.int .i64 c1)).setCell ⟨g1, 5, none⟩ (.int .i64 c2)).setCell ⟨g1, 6, none⟩ (.int .i64 c3)).setCell ⟨g1, 7, none⟩ (.int .i64 c4)).setCell ⟨g1, 8, none⟩ (.int .i64 c5))) (by rw [(put9_only w3 g1 (.int .i64 m) (.int .i64 b) (.slice ax n cap) (.int .i64 c0) (.int .i64 c1) (.int .i64 c2) (.int .i64 c3) (.int .i64 c4) (.int .i64 c5)).size]; exact Nat.le_refl _) (fun k cs hk hc => (put9_only w3 g1 (.int .i64 m) (.int .i64 b) (.slice ax n cap) (.int .i64 c0) (.int .i64 c1) (.int .i64 c2) (.int .i64 c3) (.int .i64 c4) (.int .i64 c5)).block k (fun e' => by
            subst e'
            exact blkQ_ne (T := 84) (T' := 34) hc hX1' (by decide) rfl))
          obtain ⟨d0, d1, d2, d3, d4, d5, d6, d7, d8⟩ := hZ.cells9
          have HBZ := Lib.hid hbz
          have HLZ := Lib.hid hLz
          clear hZ hbz hLz HNo HYes HTot hL3 hX0' hX1' hb3'
          go_wp2_with fail
          refine bodyPost_ret (v := .tuple #[.agg #[.int .i64 m, .int .i64 b, .slice ax n cap, .int .i64 c0, .int .i64 c1, .int .i64 c2, .int .i64 c3, .int .i64 c4, .int .i64 c5], .bool false]) (by simp [results, Try.results39, go_sem, d0, d1, d2, d3, d4, d5, d6, d7, d8]) rfl ⟨_, rfl, by rw [odPut, if_neg (by decide), HLN.out]; exact HLZ.out, by rw [HG.out]; exact HBZ.out⟩
        · have e1 : decide (1 < a) = false := decide_eq_false q1
          by_cases q2 : p < 1
          · have e2 : decide (p < 1) = true := decide_eq_true q2
            obtain rfl : y = false := HNo.out (by exact .inr (.inr (.inl q2)))
            have hZ := atQ9_put hX1' (.int .i64 m) (.int .i64 b) (.slice ax n cap) (.int .i64 c0) (.int .i64 c1) (.int .i64 c2) (.int .i64 c3) (.int .i64 c4) (.int .i64 c5)
            have hbz := hb3'.trans ((put9_only w3 g1 (.int .i64 m) (.int .i64 b) (.slice ax n cap) (.int .i64 c0) (.int .i64 c1) (.int .i64 c2) (.int .i64 c3) (.int .i64 c4) (.int .i64 c5)).below hle1)
            have hLz := hL3.keep (W' := (((((((((w3.setCell ⟨g1, 0, none⟩ (.int .i64 m)).setCell ⟨g1, 1, none⟩ (.int .i64 b)).setCell ⟨g1, 2, none⟩ (.slice ax n cap)).setCell ⟨g1, 3, none⟩ (.int .i64 c0)).setCell ⟨g1, 4, none⟩ (.int .i64 c1)).setCell ⟨g1, 5, none⟩ (.int .i64 c2)).setCell ⟨g1, 6, none⟩ (.int .i64 c3)).setCell ⟨g1, 7, none⟩ (.int .i64 c4)).setCell ⟨g1, 8, none⟩ (.int .i64 c5))) (by rw [(put9_only w3 g1 (.int .i64 m) (.int .i64 b) (.slice ax n cap) (.int .i64 c0) (.int .i64 c1) (.int .i64 c2) (.int .i64 c3) (.int .i64 c4) (.int .i64 c5)).size]; exact Nat.le_refl _) (fun k cs hk hc => (put9_only w3 g1 (.int .i64 m) (.int .i64 b) (.slice ax n cap) (.int .i64 c0) (.int .i64 c1) (.int .i64 c2) (.int .i64 c3) (.int .i64 c4) (.int .i64 c5)).block k (fun e' => by
              subst e'
              exact blkQ_ne (T := 84) (T' := 34) hc hX1' (by decide) rfl))
            obtain ⟨d0, d1, d2, d3, d4, d5, d6, d7, d8⟩ := hZ.cells9
            have HBZ := Lib.hid hbz
            have HLZ := Lib.hid hLz
            clear hZ hbz hLz HNo HYes HTot hL3 hX0' hX1' hb3'
            go_wp2_with fail
            refine bodyPost_ret (v := .tuple #[.agg #[.int .i64 m, .int .i64 b, .slice ax n cap, .int .i64 c0, .int .i64 c1, .int .i64 c2, .int .i64 c3, .int .i64 c4, .int .i64 c5], .bool false]) (by simp [results, Try.results39, go_sem, d0, d1, d2, d3, d4, d5, d6, d7, d8]) rfl ⟨_, rfl, by rw [odPut, if_neg (by decide), HLN.out]; exact HLZ.out, by rw [HG.out]; exact HBZ.out⟩
          · have e2 : decide (p < 1) = false := decide_eq_false q2
            by_cases q3 : 15 < p
            · have e3 : decide (15 < p) = true := decide_eq_true q3
              obtain rfl : y = false := HNo.out (by exact .inr (.inr (.inr (.inl q3))))
              have hZ := atQ9_put hX1' (.int .i64 m) (.int .i64 b) (.slice ax n cap) (.int .i64 c0) (.int .i64 c1) (.int .i64 c2) (.int .i64 c3) (.int .i64 c4) (.int .i64 c5)
              have hbz := hb3'.trans ((put9_only w3 g1 (.int .i64 m) (.int .i64 b) (.slice ax n cap) (.int .i64 c0) (.int .i64 c1) (.int .i64 c2) (.int .i64 c3) (.int .i64 c4) (.int .i64 c5)).below hle1)
              have hLz := hL3.keep (W' := (((((((((w3.setCell ⟨g1, 0, none⟩ (.int .i64 m)).setCell ⟨g1, 1, none⟩ (.int .i64 b)).setCell ⟨g1, 2, none⟩ (.slice ax n cap)).setCell ⟨g1, 3, none⟩ (.int .i64 c0)).setCell ⟨g1, 4, none⟩ (.int .i64 c1)).setCell ⟨g1, 5, none⟩ (.int .i64 c2)).setCell ⟨g1, 6, none⟩ (.int .i64 c3)).setCell ⟨g1, 7, none⟩ (.int .i64 c4)).setCell ⟨g1, 8, none⟩ (.int .i64 c5))) (by rw [(put9_only w3 g1 (.int .i64 m) (.int .i64 b) (.slice ax n cap) (.int .i64 c0) (.int .i64 c1) (.int .i64 c2) (.int .i64 c3) (.int .i64 c4) (.int .i64 c5)).size]; exact Nat.le_refl _) (fun k cs hk hc => (put9_only w3 g1 (.int .i64 m) (.int .i64 b) (.slice ax n cap) (.int .i64 c0) (.int .i64 c1) (.int .i64 c2) (.int .i64 c3) (.int .i64 c4) (.int .i64 c5)).block k (fun e' => by
                subst e'
                exact blkQ_ne (T := 84) (T' := 34) hc hX1' (by decide) rfl))
              obtain ⟨d0, d1, d2, d3, d4, d5, d6, d7, d8⟩ := hZ.cells9
              have HBZ := Lib.hid hbz
              have HLZ := Lib.hid hLz
              clear hZ hbz hLz HNo HYes HTot hL3 hX0' hX1' hb3'
              go_wp2_with fail
              refine bodyPost_ret (v := .tuple #[.agg #[.int .i64 m, .int .i64 b, .slice ax n cap, .int .i64 c0, .int .i64 c1, .int .i64 c2, .int .i64 c3, .int .i64 c4, .int .i64 c5], .bool false]) (by simp [results, Try.results39, go_sem, d0, d1, d2, d3, d4, d5, d6, d7, d8]) rfl ⟨_, rfl, by rw [odPut, if_neg (by decide), HLN.out]; exact HLZ.out, by rw [HG.out]; exact HBZ.out⟩
            · have e3 : decide (15 < p) = false := decide_eq_false q3
              by_cases q4 : s.size = 0
              · obtain rfl := ba_size0 q4
                obtain rfl : y = false := HNo.out (by exact .inr (.inr (.inr (.inr (.inl q4)))))
                have hZ := atQ9_put hX1' (.int .i64 m) (.int .i64 b) (.slice ax n cap) (.int .i64 c0) (.int .i64 c1) (.int .i64 c2) (.int .i64 c3) (.int .i64 c4) (.int .i64 c5)
                have hbz := hb3'.trans ((put9_only w3 g1 (.int .i64 m) (.int .i64 b) (.slice ax n cap) (.int .i64 c0) (.int .i64 c1) (.int .i64 c2) (.int .i64 c3) (.int .i64 c4) (.int .i64 c5)).below hle1)
                have hLz := hL3.keep (W' := (((((((((w3.setCell ⟨g1, 0, none⟩ (.int .i64 m)).setCell ⟨g1, 1, none⟩ (.int .i64 b)).setCell ⟨g1, 2, none⟩ (.slice ax n cap)).setCell ⟨g1, 3, none⟩ (.int .i64 c0)).setCell ⟨g1, 4, none⟩ (.int .i64 c1)).setCell ⟨g1, 5, none⟩ (.int .i64 c2)).setCell ⟨g1, 6, none⟩ (.int .i64 c3)).setCell ⟨g1, 7, none⟩ (.int .i64 c4)).setCell ⟨g1, 8, none⟩ (.int .i64 c5))) (by rw [(put9_only w3 g1 (.int .i64 m) (.int .i64 b) (.slice ax n cap) (.int .i64 c0) (.int .i64 c1) (.int .i64 c2) (.int .i64 c3) (.int .i64 c4) (.int .i64 c5)).size]; exact Nat.le_refl _) (fun k cs hk hc => (put9_only w3 g1 (.int .i64 m) (.int .i64 b) (.slice ax n cap) (.int .i64 c0) (.int .i64 c1) (.int .i64 c2) (.int .i64 c3) (.int .i64 c4) (.int .i64 c5)).block k (fun e' => by
                  subst e'
                  exact blkQ_ne (T := 84) (T' := 34) hc hX1' (by decide) rfl))
                obtain ⟨d0, d1, d2, d3, d4, d5, d6, d7, d8⟩ := hZ.cells9
                have HBZ := Lib.hid hbz
                have HLZ := Lib.hid hLz
                clear hZ hbz hLz HNo HYes HTot hL3 hX0' hX1' hb3'
                go_wp2_with fail
                refine bodyPost_ret (v := .tuple #[.agg #[.int .i64 m, .int .i64 b, .slice ax n cap, .int .i64 c0, .int .i64 c1, .int .i64 c2, .int .i64 c3, .int .i64 c4, .int .i64 c5], .bool false]) (by simp [results, Try.results39, go_sem, d0, d1, d2, d3, d4, d5, d6, d7, d8]) rfl ⟨_, rfl, by rw [odPut, if_neg (by decide), HLN.out]; exact HLZ.out, by rw [HG.out]; exact HBZ.out⟩
              · have hne := ba_ne q4
                obtain ⟨hne3, hne4⟩ := ba_toList q4
                by_cases q5 : 1500 < s.size
                · have e5 : decide (1500 < s.size) = true := decide_eq_true q5
                  have e5b : decide ((1500 : Int) < (s.size : Int)) = true := decide_eq_true (by omega)
                  obtain rfl : y = false := HNo.out (by exact .inr (.inr (.inr (.inr (.inr (.inl q5))))))
                  have hZ := atQ9_put hX1' (.int .i64 m) (.int .i64 b) (.slice ax n cap) (.int .i64 c0) (.int .i64 c1) (.int .i64 c2) (.int .i64 c3) (.int .i64 c4) (.int .i64 c5)
                  have hbz := hb3'.trans ((put9_only w3 g1 (.int .i64 m) (.int .i64 b) (.slice ax n cap) (.int .i64 c0) (.int .i64 c1) (.int .i64 c2) (.int .i64 c3) (.int .i64 c4) (.int .i64 c5)).below hle1)
                  have hLz := hL3.keep (W' := (((((((((w3.setCell ⟨g1, 0, none⟩ (.int .i64 m)).setCell ⟨g1, 1, none⟩ (.int .i64 b)).setCell ⟨g1, 2, none⟩ (.slice ax n cap)).setCell ⟨g1, 3, none⟩ (.int .i64 c0)).setCell ⟨g1, 4, none⟩ (.int .i64 c1)).setCell ⟨g1, 5, none⟩ (.int .i64 c2)).setCell ⟨g1, 6, none⟩ (.int .i64 c3)).setCell ⟨g1, 7, none⟩ (.int .i64 c4)).setCell ⟨g1, 8, none⟩ (.int .i64 c5))) (by rw [(put9_only w3 g1 (.int .i64 m) (.int .i64 b) (.slice ax n cap) (.int .i64 c0) (.int .i64 c1) (.int .i64 c2) (.int .i64 c3) (.int .i64 c4) (.int .i64 c5)).size]; exact Nat.le_refl _) (fun k cs hk hc => (put9_only w3 g1 (.int .i64 m) (.int .i64 b) (.slice ax n cap) (.int .i64 c0) (.int .i64 c1) (.int .i64 c2) (.int .i64 c3) (.int .i64 c4) (.int .i64 c5)).block k (fun e' => by
                    subst e'
                    exact blkQ_ne (T := 84) (T' := 34) hc hX1' (by decide) rfl))
                  obtain ⟨d0, d1, d2, d3, d4, d5, d6, d7, d8⟩ := hZ.cells9
                  have HBZ := Lib.hid hbz
                  have HLZ := Lib.hid hLz
                  clear hZ hbz hLz HNo HYes HTot hL3 hX0' hX1' hb3'
                  go_wp2_with fail
                  refine bodyPost_ret (v := .tuple #[.agg #[.int .i64 m, .int .i64 b, .slice ax n cap, .int .i64 c0, .int .i64 c1, .int .i64 c2, .int .i64 c3, .int .i64 c4, .int .i64 c5], .bool false]) (by simp [results, Try.results39, go_sem, d0, d1, d2, d3, d4, d5, d6, d7, d8]) rfl ⟨_, rfl, by rw [odPut, if_neg (by decide), HLN.out]; exact HLZ.out, by rw [HG.out]; exact HBZ.out⟩
                · have e5 : decide (1500 < s.size) = false := decide_eq_false q5
                  have e5b : decide ((1500 : Int) < (s.size : Int)) = false := decide_eq_false (by omega)
                  by_cases q6 : m ≤ (G.length : Int)
                  · have e6 : decide (m ≤ (G.length : Int)) = true := decide_eq_true q6
                    obtain rfl : y = false := HNo.out (by exact .inr (.inr (.inr (.inr (.inr (.inr (.inl q6)))))))
                    have hZ := atQ9_put hX1' (.int .i64 m) (.int .i64 b) (.slice ax n cap) (.int .i64 c0) (.int .i64 c1) (.int .i64 c2) (.int .i64 c3) (.int .i64 c4) (.int .i64 c5)
                    have hbz := hb3'.trans ((put9_only w3 g1 (.int .i64 m) (.int .i64 b) (.slice ax n cap) (.int .i64 c0) (.int .i64 c1) (.int .i64 c2) (.int .i64 c3) (.int .i64 c4) (.int .i64 c5)).below hle1)
                    have hLz := hL3.keep (W' := (((((((((w3.setCell ⟨g1, 0, none⟩ (.int .i64 m)).setCell ⟨g1, 1, none⟩ (.int .i64 b)).setCell ⟨g1, 2, none⟩ (.slice ax n cap)).setCell ⟨g1, 3, none⟩ (.int .i64 c0)).setCell ⟨g1, 4, none⟩ (.int .i64 c1)).setCell ⟨g1, 5, none⟩ (.int .i64 c2)).setCell ⟨g1, 6, none⟩ (.int .i64 c3)).setCell ⟨g1, 7, none⟩ (.int .i64 c4)).setCell ⟨g1, 8, none⟩ (.int .i64 c5))) (by rw [(put9_only w3 g1 (.int .i64 m) (.int .i64 b) (.slice ax n cap) (.int .i64 c0) (.int .i64 c1) (.int .i64 c2) (.int .i64 c3) (.int .i64 c4) (.int .i64 c5)).size]; exact Nat.le_refl _) (fun k cs hk hc => (put9_only w3 g1 (.int .i64 m) (.int .i64 b) (.slice ax n cap) (.int .i64 c0) (.int .i64 c1) (.int .i64 c2) (.int .i64 c3) (.int .i64 c4) (.int .i64 c5)).block k (fun e' => by
                      subst e'
                      exact blkQ_ne (T := 84) (T' := 34) hc hX1' (by decide) rfl))
                    obtain ⟨d0, d1, d2, d3, d4, d5, d6, d7, d8⟩ := hZ.cells9
                    have HBZ := Lib.hid hbz
                    have HLZ := Lib.hid hLz
                    clear hZ hbz hLz HNo HYes HTot hL3 hX0' hX1' hb3'
                    go_wp2_with fail
                    refine bodyPost_ret (v := .tuple #[.agg #[.int .i64 m, .int .i64 b, .slice ax n cap, .int .i64 c0, .int .i64 c1, .int .i64 c2, .int .i64 c3, .int .i64 c4, .int .i64 c5], .bool false]) (by simp [results, Try.results39, go_sem, d0, d1, d2, d3, d4, d5, d6, d7, d8]) rfl ⟨_, rfl, by rw [odPut, if_neg (by decide), HLN.out]; exact HLZ.out, by rw [HG.out]; exact HBZ.out⟩
                  · have e6 : decide (m ≤ (G.length : Int)) = false := decide_eq_false q6
                    by_cases q7 : b < (s.size : Int) + neSum G
                    · have e7 : decide (b < (s.size : Int) + neSum G) = true := decide_eq_true q7
                      obtain rfl : y = false := HNo.out (by exact .inr (.inr (.inr (.inr (.inr (.inr (.inr (q7))))))))
                      have hZ := atQ9_put hX1' (.int .i64 m) (.int .i64 b) (.slice ax n cap) (.int .i64 c0) (.int .i64 c1) (.int .i64 c2) (.int .i64 c3) (.int .i64 c4) (.int .i64 c5)
                      have hbz := hb3'.trans ((put9_only w3 g1 (.int .i64 m) (.int .i64 b) (.slice ax n cap) (.int .i64 c0) (.int .i64 c1) (.int .i64 c2) (.int .i64 c3) (.int .i64 c4) (.int .i64 c5)).below hle1)
                      have hLz := hL3.keep (W' := (((((((((w3.setCell ⟨g1, 0, none⟩ (.int .i64 m)).setCell ⟨g1, 1, none⟩ (.int .i64 b)).setCell ⟨g1, 2, none⟩ (.slice ax n cap)).setCell ⟨g1, 3, none⟩ (.int .i64 c0)).setCell ⟨g1, 4, none⟩ (.int .i64 c1)).setCell ⟨g1, 5, none⟩ (.int .i64 c2)).setCell ⟨g1, 6, none⟩ (.int .i64 c3)).setCell ⟨g1, 7, none⟩ (.int .i64 c4)).setCell ⟨g1, 8, none⟩ (.int .i64 c5))) (by rw [(put9_only w3 g1 (.int .i64 m) (.int .i64 b) (.slice ax n cap) (.int .i64 c0) (.int .i64 c1) (.int .i64 c2) (.int .i64 c3) (.int .i64 c4) (.int .i64 c5)).size]; exact Nat.le_refl _) (fun k cs hk hc => (put9_only w3 g1 (.int .i64 m) (.int .i64 b) (.slice ax n cap) (.int .i64 c0) (.int .i64 c1) (.int .i64 c2) (.int .i64 c3) (.int .i64 c4) (.int .i64 c5)).block k (fun e' => by
                        subst e'
                        exact blkQ_ne (T := 84) (T' := 34) hc hX1' (by decide) rfl))
                      obtain ⟨d0, d1, d2, d3, d4, d5, d6, d7, d8⟩ := hZ.cells9
                      have HBZ := Lib.hid hbz
                      have HLZ := Lib.hid hLz
                      clear hZ hbz hLz HNo HYes HTot hL3 hX0' hX1' hb3'
                      go_wp2_with fail
                      refine bodyPost_ret (v := .tuple #[.agg #[.int .i64 m, .int .i64 b, .slice ax n cap, .int .i64 c0, .int .i64 c1, .int .i64 c2, .int .i64 c3, .int .i64 c4, .int .i64 c5], .bool false]) (by simp [results, Try.results39, go_sem, d0, d1, d2, d3, d4, d5, d6, d7, d8]) rfl ⟨_, rfl, by rw [odPut, if_neg (by decide), HLN.out]; exact HLZ.out, by rw [HG.out]; exact HBZ.out⟩
                    · have e7 : decide (b < (s.size : Int) + neSum G) = false := decide_eq_false q7
                      obtain rfl : y = true := HYes.out ⟨by omega, by omega, by omega, by omega, q4, by omega, by omega, by omega⟩
                      have hal : Below w3.heap.size w3 (w3.alloc (.cells #[] 84)) := (Below.refl _ _).alloc (Nat.le_refl _) _
                      have hE : OwnE (w3.alloc (.cells #[] 84)) w3.heap.size 84 3 (.slice (some ⟨w3.heap.size, 0, none⟩) 0 0) 0 [] := ownE_of (World.ownsRow_lit w3 #[] 0 (Nat.le_refl _) (Nat.zero_le _) rfl)
                      obtain ⟨ya, yc, ey, hnn, hcc, hvl⟩ := (hL3.later hal).srcG
                      simp only [Value.slice.injEq, true_and] at ey
                      obtain ⟨rfl, rfl⟩ := ey
                      have HC3 := Lib.hid hcc
                      have HN3 := Lib.hid hnn
                      have HV3 := Lib.hid hvl
                      have H13 := Lib.hid (odV_one l)
                      have HSn := Lib.hid (odV_snoc l ⟨a, p, s⟩)
                      clear hcc hnn hvl
                      obtain ⟨_, _, _, _, _, _, _, _, _⟩ := (hX0'.later hal).cells9
                      go_wp2_with (at_builtin; refine append_anyG _ rfl (.tmp 68) (.tmp 70) 30 rfl 84 i0 (.agg #[.int .i64 0, .int .i64 0, .string ByteArray.empty]) 3 32 Try.underlying30 hi hz0 hz1 hz2 rfl (by decide) w3.heap.size _ 0 [] rfl hE ax n cap (odV l) rfl HV3.out HN3.out HC3.out H13.out ?m1 ?m2 (by simp) ?_)
                      case m1 => unfold maxLen; omega
                      case m2 => omega
                      intro v4 w4 hO4 hg4 _
                      have hb4 : Below w3.heap.size w3 w4 := hal.grown hg4 (by simp) (fun k hk => by cases hk; exact Nat.le_refl _)
                      clear hE hal HC3 HN3 HV3 H13
                      generalize odV l = xs at *
                      go_wp2_with (at_builtin; refine append_recG (W := w3) rfl (.tmp 71) (.tmp 76) 30 rfl 84 i0 (.agg #[.int .i64 0, .int .i64 0, .string ByteArray.empty]) 3 32 Try.underlying30 hi hz0 hz1 hz2 rfl (by decide) w3.heap.size _ n xs rfl hO4 #[.int .i64 a, .int .i64 p, .string s] rfl rfl ?d0 ?d1 ?d2 hb4.size w3.heap.size (Nat.le_refl _) hb4 ?_)
                      case d0 => exact ⟨rfl, rfl, rfl⟩
                      case d1 => unfold maxLen; omega
                      case d2 => omega
                      intro v5 w5 hO5 hb5 _ _
                      obtain ⟨a5, k5, rfl⟩ := hO5.formG
                      have hXa := hX0'.later hb5
                      have hXb := hX1'.later hb5
                      have hlt := hX0'.lt
                      have hlt1 := hX1'.lt
                      clear hX0' hX1' hO4 hb4 hL3
                      obtain ⟨_, _, _, _, _, _, _, _, _⟩ := hXa.cells9
                      obtain ⟨_, _, _, _, _, _, _, _, _⟩ := hXa.frees9
                      have hXc := atQ9_set2 hXa (.slice a5 (n + 1) k5)
                      have hXd := hXb.only hne10 ((Only.refl g0 w5).setCell 2 (.slice a5 (n + 1) k5))
                      have hbc := (hb3'.trans (hb5.mono (by omega))).trans (((Only.refl g0 w5).setCell 2 (.slice a5 (n + 1) k5)).below (Nat.le_refl _))
                      have hOc := hO5.keep (W' := w5.setCell ⟨g0, 2, none⟩ (.slice a5 (n + 1) k5)) (by rw [((Only.refl g0 w5).setCell 2 (.slice a5 (n + 1) k5)).size]; exact Nat.le_refl _) (fun k cs hk hc => ((Only.refl g0 w5).setCell 2 (.slice a5 (n + 1) k5)).block k (fun e' => by
                        subst e'
                        exact blkQ_ne (T := 84) (T' := 34) hc hXa (by decide) rfl))
                      go_upto_region 11 with fail
                      generalize (w5.setCell ⟨g0, 2, none⟩ (.slice a5 (n + 1) k5)) = w6 at *
                      clear hXa hXb hO5 hb5
                      obtain ⟨_, _, _, _, _, _, _, _, _⟩ := hXc.cells9
                      obtain ⟨_, _, _, _, _, _, _, _, _⟩ := hXd.frees9
                      obtain ⟨_, _, _, _, _, _, _, _, _⟩ := hXd.cells9
                      have hZ := atQ9_put hXd (.int .i64 m) (.int .i64 b) (.slice a5 (n + 1) k5) (.int .i64 c0) (.int .i64 c1) (.int .i64 c2) (.int .i64 c3) (.int .i64 c4) (.int .i64 c5)
                      have hbz := hbc.trans ((put9_only w6 g1 (.int .i64 m) (.int .i64 b) (.slice a5 (n + 1) k5) (.int .i64 c0) (.int .i64 c1) (.int .i64 c2) (.int .i64 c3) (.int .i64 c4) (.int .i64 c5)).below hle1)
                      have hLz := hOc.keep (W' := (((((((((w6.setCell ⟨g1, 0, none⟩ (.int .i64 m)).setCell ⟨g1, 1, none⟩ (.int .i64 b)).setCell ⟨g1, 2, none⟩ (.slice a5 (n + 1) k5)).setCell ⟨g1, 3, none⟩ (.int .i64 c0)).setCell ⟨g1, 4, none⟩ (.int .i64 c1)).setCell ⟨g1, 5, none⟩ (.int .i64 c2)).setCell ⟨g1, 6, none⟩ (.int .i64 c3)).setCell ⟨g1, 7, none⟩ (.int .i64 c4)).setCell ⟨g1, 8, none⟩ (.int .i64 c5))) (by rw [(put9_only w6 g1 (.int .i64 m) (.int .i64 b) (.slice a5 (n + 1) k5) (.int .i64 c0) (.int .i64 c1) (.int .i64 c2) (.int .i64 c3) (.int .i64 c4) (.int .i64 c5)).size]; exact Nat.le_refl _) (fun k cs hk hc => (put9_only w6 g1 (.int .i64 m) (.int .i64 b) (.slice a5 (n + 1) k5) (.int .i64 c0) (.int .i64 c1) (.int .i64 c2) (.int .i64 c3) (.int .i64 c4) (.int .i64 c5)).block k (fun e' => by
                        subst e'
                        exact blkQ_ne (T := 84) (T' := 34) hc hXd (by decide) rfl))
                      obtain ⟨d0, d1, d2, d3, d4, d5, d6, d7, d8⟩ := hZ.cells9
                      have HBZ := Lib.hid hbz
                      have HLZ := Lib.hid hLz
                      clear hXc hXd hOc hZ hbz hLz
                      go_wp2_with fail
                      refine bodyPost_ret (v := .tuple #[.agg #[.int .i64 m, .int .i64 b, .slice a5 (n + 1) k5, .int .i64 c0, .int .i64 c1, .int .i64 c2, .int .i64 c3, .int .i64 c4, .int .i64 c5], .bool true]) (by simp [results, Try.results39, go_sem, d0, d1, d2, d3, d4, d5, d6, d7, d8]) rfl ⟨_, rfl, by rw [odPut, if_pos rfl, List.length_append, HSn.out, HLN.out]; exact HLZ.out.base (Nat.zero_le _), by rw [HG.out]; exact HBZ.out⟩
end Go.Proofs.Ytbmbomojnljccaa
