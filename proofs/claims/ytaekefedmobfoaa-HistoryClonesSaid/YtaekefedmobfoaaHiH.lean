/- history: Put, Again. -/
import Derived.Test.YtaekefedmobfoaaHiG
namespace Go.Proofs.Ytaekefedmobfoaa
open Go.RowKit
set_option linter.unusedVariables false
set_option linter.unusedSimpArgs false
theorem hiPut_any {w : World} {base gh : Nat} {m t : Int} {v : Value} {l : List HR} {ag : Int} (h : HIn w base gh m t v l ag) (s p : Int) (d : ByteArray) :
    Calls Try.prog 30 #[.pointer (some ⟨gh, 0, none⟩), .int .i64 s, .int .i64 p, .string d] w fun e w' => e = .returned (.bool (hiOk s l)) ∧ (∃ v', HIn w' base gh m t v' (hiPut (hiC m) l ⟨s, 0, p, d⟩) ag) ∧ Below base w w' ∧ KeptH w w' ∧ KeptV gh v.ownBlock w w' := by
  by_cases hx : hiOk s l = true
  · rw [hx]
    unfold hiPut hiAdd
    rw [if_pos (show hiOk (HR.s ⟨s, 0, p, d⟩) l = true from hx)]
    have hlen := h.len
    rcases Int.lt_or_le (l.length : Int) (hiC m) with h1 | h1
    · rw [if_neg (by omega)]
      exact hiPutRoom h ⟨s, 0, p, d⟩ rfl hx h1
    · have := hiC_bd m
      rw [if_pos (by omega), List.drop_append_of_le_length (by omega)]
      exact hiPutFull h ⟨s, 0, p, d⟩ rfl hx h1
  · have hx' : hiOk s l = false := by simpa using hx
    rw [hx']
    unfold hiPut
    rw [if_neg (show ¬ hiOk (HR.s ⟨s, 0, p, d⟩) l = true from hx)]
    refine (hiPutNo h ⟨s, 0, p, d⟩ hx').mono ?_
    rintro e w' ⟨rfl, rfl⟩
    exact ⟨rfl, ⟨v, h⟩, Below.refl _ _, KeptH.refl _, fun _ _ _ _ => rfl⟩
/-- No tries are below 0. -/
def HiNn (l : List HR) : Prop := ∀ r ∈ l, 0 ≤ r.t
theorem hiNn_nil : HiNn [] := fun r hr => by simp at hr
theorem hiNn_put {l : List HR} (h : HiNn l) (M s p : Int) (d : ByteArray) : HiNn (hiPut M l ⟨s, 0, p, d⟩) := by
  have h1 : HiNn (l ++ [⟨s, 0, p, d⟩]) := fun r hr => by
    rcases List.mem_append.1 hr with hr | hr
    · exact h r hr
    · simp at hr; subst hr; exact Int.le_refl _
  unfold hiPut hiAdd
  split
  · split
    · exact fun r hr => h1 r (List.mem_of_mem_drop hr)
    · exact h1
  · exact h
theorem hiNn_fg {l : List HR} (h : HiNn l) (s : Int) : HiNn (hiFg s l) := fun r hr => h r (List.mem_filter.1 hr).1
theorem hiNn_ag {l : List HR} (h : HiNn l) (s p : Int) : HiNn (hiAg s p l) := fun r hr => by
  unfold hiAg at hr
  obtain ⟨x, hx, rfl⟩ := List.mem_map.1 hr
  have := h x hx
  split
  · show 0 ≤ x.t + 1
    omega
  · exact this
theorem hiV_set (l : List HR) (k : Nat) (r r' : HR) (hr : l[k]? = some r) (j : Nat) (u : Value) (hj : j < 4) (e : r'.cs = r.cs.set j u) : hiV (l.set k r') = (hiV l).set (k * 4 + j) u :=
  rowsV_set HR.cs_len l k r r' hr j u hj e
/-- A block of another's own is written. -/
theorem HIn.onlyRec {W W' : World} {base gh g : Nat} {m t : Int} {v : Value} {l : List HR} {ag : Int} {c0 c1 c2 c3 : Value} {T : TypeId} (h : HIn W base gh m t v l ag) (x : At4 T W g c0 c1 c2 c3) (h1 : gh ≠ g) (h2 : v.ownBlock ≠ some g) (ho : Only g W W') : HIn W' base gh m t v l ag :=
  ⟨h.bs, h.at4.only h1 ho, h.own.keep (by rw [ho.size]; exact Nat.le_refl _) (fun k cs hk _ => ho.block k (fun e => h2 (by rw [hk, e]))), h.len, h.up⟩
set_option maxRecDepth 100000 in
set_option maxHeartbeats 1600000 in
theorem hiAgainNone {w : World} {base gh : Nat} {m t : Int} {v : Value} {l : List HR} {ag : Int} (h : HIn w base gh m t v l ag) (s p : Int) (hf : hiFind s l = none) :
    Calls Try.prog 31 #[.pointer (some ⟨gh, 0, none⟩), .int .i64 s, .int .i64 p] w fun e w' => e = .returned (.tuple #[hiZ.val, .bool false]) ∧ Below w.heap.size w w' := by
  have hX := at4_new 64 w w.heap.size (.int .i64 0) (.int .i64 0) (.int .i64 0) (.string (⟨#[]⟩ : ByteArray)) rfl
  have hb : Below w.heap.size w (w.alloc (.cells #[.int .i64 0, .int .i64 0, .int .i64 0, .string (⟨#[]⟩ : ByteArray)] 64)) := (Below.refl _ _).alloc (Nat.le_refl _) _
  have HPl := Lib.hid (hiPlaceNone (h.later hb) s hf)
  clear h hf
  go_enter Try.func31, Try.ntmps31
  go_upto_region 1 with fail
  generalize (w.alloc (.cells #[.int .i64 0, .int .i64 0, .int .i64 0, .string (⟨#[]⟩ : ByteArray)] 64)) = w2 at *
  generalize hgb : w.heap.size = gb at *
  have HG := Lib.hid hgb
  clear hgb
  generalize hiPos s l = k at *
  go_upto_region 2 with fail
  go_wp2_with fail
  refine HPl.out.mono ?_
  rintro e w3 ⟨rfl, hk3⟩
  have hX3 := hX.later hk3
  have hb3 := hb.trans (hk3.mono (by rw [← HG.out]; exact (show w.heap.size ≤ w2.heap.size from by have := hb.size; omega)))
  clear hX hb HPl hk3
  go_wp2_with fail
  go_quiet (fail)
  have hX4 := hX3.later (below_drewN (Below.refl _ _) nq)
  have hb4 := below_drewN hb3 nq
  generalize w3.drewN nq = w4 at hX4 hb4 ⊢
  clear hX3 hb3
  obtain ⟨_, _, _, _⟩ := hX4.frees
  obtain ⟨_, _, _, _⟩ := hX4.cells
  have hZ := at4_put hX4 (.int .i64 0) (.int .i64 0) (.int .i64 0) (.string (⟨#[]⟩ : ByteArray))
  have hbz := hb4.trans ((put4_only w4 gb (.int .i64 0) (.int .i64 0) (.int .i64 0) (.string (⟨#[]⟩ : ByteArray))).below (Nat.le_refl _))
  obtain ⟨d0, d1, d2, d3⟩ := hZ.cells
  go_wp2_with fail
  refine bodyPost_ret (v := .tuple #[.agg #[.int .i64 0, .int .i64 0, .int .i64 0, .string (⟨#[]⟩ : ByteArray)], .bool false]) (by simp [results, Try.results31, go_sem, d0, d1, d2, d3]) rfl ⟨rfl, by rw [HG.out]; exact hbz⟩
set_option maxRecDepth 100000 in
set_option maxHeartbeats 3200000 in
theorem hiAgainMuch {w : World} {base gh : Nat} {m t : Int} {v : Value} {l : List HR} {ag : Int} (h : HIn w base gh m t v l ag) (s p : Int) (r : HR) (hf : hiFind s l = some r) (ht : 0 ≤ r.t) (htt : hiT t ≤ r.t) :
    Calls Try.prog 31 #[.pointer (some ⟨gh, 0, none⟩), .int .i64 s, .int .i64 p] w fun e w' => e = .returned (.tuple #[hiZ.val, .bool false]) ∧ Below w.heap.size w w' := by
  have hX := at4_new 64 w w.heap.size (.int .i64 0) (.int .i64 0) (.int .i64 0) (.string (⟨#[]⟩ : ByteArray)) rfl
  have hb : Below w.heap.size w (w.alloc (.cells #[.int .i64 0, .int .i64 0, .int .i64 0, .string (⟨#[]⟩ : ByteArray)] 64)) := (Below.refl _ _).alloc (Nat.le_refl _) _
  have hH := h.later hb
  have HPl := Lib.hid (hiPlaceYes hH s r hf)
  obtain ⟨hp, hps⟩ := hiFind_pos h.up s r hf
  obtain ⟨g, off, cap, rfl, hnc, hcm, _, _, _⟩ := hH.own.row (by have := (List.getElem?_eq_some_iff.1 hp).1; omega)
  obtain ⟨a, cap2, e2, _, _, _, hrd⟩ := hH.own.rdr
  cases e2
  have hlt := (List.getElem?_eq_some_iff.1 hp).1
  unfold maxLen at hcm
  have hsm := h.small
  have HT := Lib.hid (hiAmongT t)
  have htb := hiT_bd t
  have hQ := hH
  have hbb : base ≤ w.heap.size := by have := h.at4.lt; have := h.bs; omega
  have hgw : g < w.heap.size := (h.own.1.lt g rfl).2
  have hghw : gh < w.heap.size := h.at4.lt
  have HP := Lib.hid hp
  have HPS := Lib.hid hps
  clear hp hf hps
  go_enter Try.func31, Try.ntmps31
  go_upto_region 1 with fail
  generalize (w.alloc (.cells #[.int .i64 0, .int .i64 0, .int .i64 0, .string (⟨#[]⟩ : ByteArray)] 64)) = w2 at *
  generalize hgb : w.heap.size = gb at *
  have HG := Lib.hid hgb
  have HU := Lib.hid h.up
  clear hgb h hH
  have HKE : Hid (∃ z, z = hiPos s l) := Lib.hid ⟨_, rfl⟩
  obtain ⟨k, hkk⟩ := HKE.out
  rw [← hkk] at HPl HP hlt
  clear hkk HKE
  have HR := Lib.hid (fun W (hb : Below w2.heap.size w2 W) => (hrd.later hb) k r HP.out)
  clear hrd
  have hsz2 : gb ≤ w2.heap.size := by rw [← HG.out]; exact (show w.heap.size ≤ w2.heap.size from by have := hb.size; have := HG.out; omega)
  go_upto_region 2 with fail
  go_wp2_with fail
  refine HPl.out.mono ?_
  rintro e w3 ⟨rfl, hk3⟩
  have hX3 := hX.later hk3
  have hQ3 := hQ.later hk3
  obtain ⟨g', off', eg, c0, c1, c2, c3⟩ := HR.out w3 hk3
  cases eg
  have hb3 := hb.trans (hk3.mono hsz2)
  have hnn : ∃ n, n = l.length := ⟨_, rfl⟩
  clear hX hb HPl hQ hk3 HR
  have hx4 := hQ3.at4.cells
  have hdd : decide (hiT t ≤ r.t) = true := by simp; omega
  obtain ⟨x0, x1, x2, x3⟩ := hx4
  have hcg : (k : Int) < (l.length : Int) := by omega
  go_wp2_with fail
  go_region_held3 (fun W => W.cell? ⟨gh, 1, none⟩ = some (.int .i64 t) ∧ W.cell? ⟨gh, 2, none⟩ = some (.slice (some ⟨g, off, none⟩) l.length cap) ∧ W.cell? ⟨g, off + k * 4 + 1, none⟩ = some (.int .i64 r.t)) (first | (go_keep; done) | (go_split_ands <;> assumption)) (first | (go_at_call 69; refine (HT.out _).mono ?_; rintro e w' ⟨rfl, rfl⟩))
  all_goals
    have hX4 := hX3.drew
    have hb4 := hb3.drew
    generalize w3.drew = w4 at hX4 hb4 ⊢
    clear hX3 hb3
    obtain ⟨_, _, _, _⟩ := hX4.frees
    obtain ⟨_, _, _, _⟩ := hX4.cells
    have hZ := at4_put hX4 (.int .i64 0) (.int .i64 0) (.int .i64 0) (.string (⟨#[]⟩ : ByteArray))
    have hbz := hb4.trans ((put4_only w4 gb (.int .i64 0) (.int .i64 0) (.int .i64 0) (.string (⟨#[]⟩ : ByteArray))).below (Nat.le_refl _))
    obtain ⟨d0, d1, d2, d3⟩ := hZ.cells
    go_wp2_with fail
    refine bodyPost_ret (v := .tuple #[.agg #[.int .i64 0, .int .i64 0, .int .i64 0, .string (⟨#[]⟩ : ByteArray)], .bool false]) (by simp [results, Try.results31, go_sem, d0, d1, d2, d3]) rfl ⟨rfl, by rw [HG.out]; exact hbz⟩
set_option maxRecDepth 100000 in
set_option maxHeartbeats 3200000 in
theorem hiAgainYes {w : World} {base gh : Nat} {m t : Int} {v : Value} {l : List HR} {ag : Int} (h : HIn w base gh m t v l ag) (s p : Int) (r : HR) (hf : hiFind s l = some r) (ht : 0 ≤ r.t) (htt : r.t < hiT t) (hag : 0 ≤ ag ∧ ag ≤ 1000000) :
    Calls Try.prog 31 #[.pointer (some ⟨gh, 0, none⟩), .int .i64 s, .int .i64 p] w fun e w' => e = .returned (.tuple #[(r.ag p).val, .bool true]) ∧ (∃ v', HIn w' base gh m t v' (hiAg s p l) (ag + 1)) ∧ Below base w w' ∧ KeptH w w' := by
  have hX := at4_new 64 w w.heap.size (.int .i64 0) (.int .i64 0) (.int .i64 0) (.string (⟨#[]⟩ : ByteArray)) rfl
  have hb : Below w.heap.size w (w.alloc (.cells #[.int .i64 0, .int .i64 0, .int .i64 0, .string (⟨#[]⟩ : ByteArray)] 64)) := (Below.refl _ _).alloc (Nat.le_refl _) _
  have hH := h.later hb
  have HPl := Lib.hid (hiPlaceYes hH s r hf)
  obtain ⟨hp, hps⟩ := hiFind_pos h.up s r hf
  obtain ⟨g, off, cap, rfl, hnc, hcm, _, _, _⟩ := hH.own.row (by have := (List.getElem?_eq_some_iff.1 hp).1; omega)
  obtain ⟨a, cap2, e2, _, _, _, hrd⟩ := hH.own.rdr
  cases e2
  have hlt := (List.getElem?_eq_some_iff.1 hp).1
  unfold maxLen at hcm
  have hsm := h.small
  have HT := Lib.hid (hiAmongT t)
  have htb := hiT_bd t
  have hQ := hH
  have hbb : base ≤ w.heap.size := by have := h.at4.lt; have := h.bs; omega
  have hgw : g < w.heap.size := (h.own.1.lt g rfl).2
  have hghw : gh < w.heap.size := h.at4.lt
  have HP := Lib.hid hp
  have HPS := Lib.hid hps
  clear hp hf hps
  go_enter Try.func31, Try.ntmps31
  go_upto_region 1 with fail
  generalize (w.alloc (.cells #[.int .i64 0, .int .i64 0, .int .i64 0, .string (⟨#[]⟩ : ByteArray)] 64)) = w2 at *
  generalize hgb : w.heap.size = gb at *
  have HG := Lib.hid hgb
  have HU := Lib.hid h.up
  clear hgb h hH
  have HKE : Hid (∃ z, z = hiPos s l) := Lib.hid ⟨_, rfl⟩
  obtain ⟨k, hkk⟩ := HKE.out
  rw [← hkk] at HPl HP hlt
  clear hkk HKE
  have HR := Lib.hid (fun W (hb : Below w2.heap.size w2 W) => (hrd.later hb) k r HP.out)
  clear hrd
  have hsz2 : gb ≤ w2.heap.size := by rw [← HG.out]; exact (show w.heap.size ≤ w2.heap.size from by have := hb.size; have := HG.out; omega)
  go_upto_region 2 with fail
  go_wp2_with fail
  refine HPl.out.mono ?_
  rintro e w3 ⟨rfl, hk3⟩
  have hX3 := hX.later hk3
  have hQ3 := hQ.later hk3
  obtain ⟨g', off', eg, c0, c1, c2, c3⟩ := HR.out w3 hk3
  cases eg
  have hb3 := hb.trans (hk3.mono hsz2)
  have hnn : ∃ n, n = l.length := ⟨_, rfl⟩
  clear hX hb HPl hQ hk3 HR
  have hx4 := hQ3.at4.cells
  have hdd : decide (hiT t ≤ r.t) = false := by simp; omega
  obtain ⟨x0, x1, x2, x3⟩ := hx4
  have hcg : (k : Int) < (l.length : Int) := by omega
  go_wp2_with fail
  go_region_held3 (fun W => W.cell? ⟨gh, 1, none⟩ = some (.int .i64 t) ∧ W.cell? ⟨gh, 2, none⟩ = some (.slice (some ⟨g, off, none⟩) l.length cap) ∧ W.cell? ⟨g, off + k * 4 + 1, none⟩ = some (.int .i64 r.t)) (first | (go_keep; done) | (go_split_ands <;> assumption)) (first | (go_at_call 69; refine (HT.out _).mono ?_; rintro e w' ⟨rfl, rfl⟩))
  all_goals
    have hX4 := hX3.drew
    have hQ4 := hQ3.drew
    have hK4 : KeptH w w3.drew := (keptH_below (by rw [HG.out]; exact hb3)).drew
    have hb4 : Below base w w3.drew := (hb3.mono hbb).drew
    have d1 : w3.drew.cell? ⟨g, off + k * 4 + 1, none⟩ = some (.int .i64 r.t) := c1
    generalize w3.drew = w4 at hX4 hQ4 hK4 hb4 d1 ⊢
    have hO4 := hQ4.own
    have h44 := hQ4.at4
    have hghg : gh ≠ g := fun e => hQ4.apart (by rw [e]; rfl)
    have hgbg : gb ≠ g := by omega
    have hghb : gh ≠ gb := by omega
    have hbs := hQ4.bs
    have hbg : base ≤ g := (hO4.1.lt g rfl).1
    have hlen := hQ4.len
    clear hX3 hQ3 hb3 c0 c1 c2 c3 hQ4 hnn x0 x1 x2 x3
    have hw1 : IntKind.i64.wrap (r.t + 1) = r.t + 1 := IntWalk.i64_in _ ⟨by omega, by omega⟩
    have hw2 : IntKind.i64.wrap (ag + 1) = ag + 1 := IntWalk.i64_in _ ⟨by omega, by omega⟩
    have hf4 := (hO4.row (by omega))
    obtain ⟨_, _, _, ef, _, _, _, _, hfc4⟩ := hf4
    cases ef
    have hfz4 : w4.frozen? ⟨g, off + k * 4 + 1, none⟩ = false := by rw [Nat.add_assoc]; exact (hfc4 (k * 4 + 1) _ (rowsV_at HR.cs_len _ k r HP.out 1 _ rfl)).2
    have hcl4 : w4.cell? ⟨g, off + k * 4 + 1, none⟩ = some (.int .i64 r.t) := by rw [Nat.add_assoc]; exact (hfc4 (k * 4 + 1) _ (rowsV_at HR.cs_len _ k r HP.out 1 _ rfl)).1
    obtain ⟨_, _, _, _⟩ := h44.cells
    have hset4 := hO4.setAt (k * 4 + 1) (.int .i64 (r.t + 1)) (by rw [hiV_len]; skip; omega)
    rw [← hiV_set _ k r (⟨r.s, r.t + 1, r.p, r.d⟩ : HR) HP.out 1 (.int .i64 (r.t + 1)) (by decide) rfl, ← Nat.add_assoc] at hset4
    have ho4 := (Only.refl g w4).setCell (off + k * 4 + 1) (.int .i64 (r.t + 1))
    have hX5 := hX4.only hgbg ho4
    have h45 := h44.only hghg ho4
    have hb5 := hb4.trans (ho4.below hbg)
    have hK5 : KeptH w (w4.setCell ⟨g, off + k * 4 + 1, none⟩ (.int .i64 (r.t + 1))) := hK4.trans (keptH_row (row := some g) (fun q hq => hO4.2 q (by cases hq; rfl)) (only_grown ho4))
    clear hfc4
    go_upto_region 5 with fail
    generalize w4.setCell ⟨g, off + k * 4 + 1, none⟩ (.int .i64 (r.t + 1)) = w5 at hset4 hX5 h45 hb5 hK5 ⊢
    have hO5 := hset4
    clear ho4 hset4 hX4 h44 hb4 hK4 hO4
    have HP5 : Hid ((l.set k (⟨r.s, r.t + 1, r.p, r.d⟩ : HR))[k]? = some (⟨r.s, r.t + 1, r.p, r.d⟩ : HR)) := Lib.hid (List.getElem?_set_self hlt)
    have hf5 := (hO5.row (by omega))
    obtain ⟨_, _, _, ef, _, _, _, _, hfc5⟩ := hf5
    cases ef
    have hfz5 : w5.frozen? ⟨g, off + k * 4 + 2, none⟩ = false := by rw [Nat.add_assoc]; exact (hfc5 (k * 4 + 2) _ (rowsV_at HR.cs_len _ k (⟨r.s, r.t + 1, r.p, r.d⟩ : HR) HP5.out 2 _ rfl)).2
    have hcl5 : w5.cell? ⟨g, off + k * 4 + 2, none⟩ = some (.int .i64 r.p) := by rw [Nat.add_assoc]; exact (hfc5 (k * 4 + 2) _ (rowsV_at HR.cs_len _ k (⟨r.s, r.t + 1, r.p, r.d⟩ : HR) HP5.out 2 _ rfl)).1
    obtain ⟨_, _, _, _⟩ := h45.cells
    have hset5 := hO5.setAt (k * 4 + 2) (.int .i64 p) (by rw [hiV_len]; rw [List.length_set]; omega)
    rw [← hiV_set _ k (⟨r.s, r.t + 1, r.p, r.d⟩ : HR) (r.ag p) HP5.out 2 (.int .i64 p) (by decide) rfl, ← Nat.add_assoc, List.set_set] at hset5
    have ho5 := (Only.refl g w5).setCell (off + k * 4 + 2) (.int .i64 p)
    have hX6 := hX5.only hgbg ho5
    have h46 := h45.only hghg ho5
    have hb6 := hb5.trans (ho5.below hbg)
    have hK6 : KeptH w (w5.setCell ⟨g, off + k * 4 + 2, none⟩ (.int .i64 p)) := hK5.trans (keptH_row (row := some g) (fun q hq => hO5.2 q (by cases hq; rfl)) (only_grown ho5))
    clear hfc5
    go_upto_region 6 with fail
    generalize w5.setCell ⟨g, off + k * 4 + 2, none⟩ (.int .i64 p) = w6 at hset5 hX6 h46 hb6 hK6 ⊢
    have hO6 := hset5
    clear ho5 hset5 hX5 h45 hb5 hK5 hO5
    have hl6 : hiAg s p l = l.set k (r.ag p) := by rw [← HPS.out]; exact hiAg_set HU.out k r HP.out p
    obtain ⟨_, _, _, _⟩ := h46.cells
    obtain ⟨_, _, _, _⟩ := h46.frees
    have ho6 := (Only.refl gh w6).setCell 3 (.int .i64 (ag + 1))
    have hX7 := hX6.only (fun e => hghb e.symm) ho6
    have h47 := at4h_set3 h46 (.int .i64 (ag + 1))
    have hO7 : OwnE (w6.setCell ⟨gh, 3, none⟩ (.int .i64 (ag + 1))) base 64 4 (.slice (some ⟨g, off, none⟩) l.length cap) l.length (hiV (l.set k (r.ag p))) := hO6.keep (by rw [ho6.size]; exact Nat.le_refl _) (fun q cs hq _ => ho6.block q (fun e => hghg (by cases hq; exact e.symm)))
    have hb7 := hb6.trans (ho6.below hbs)
    have hK7 := hK6.trans (keptH_only h46 ho6)
    go_upto_region 7 with fail
    generalize w6.setCell ⟨gh, 3, none⟩ (.int .i64 (ag + 1)) = w7 at hX7 h47 hO7 hb7 hK7 ⊢
    clear ho6 hX6 h46 hb6 hK6 hO6
    have hI7 : HIn w7 base gh m t (.slice (some ⟨g, off, none⟩) l.length cap) (hiAg s p l) (ag + 1) := ⟨hbs, h47, by rw [hiAg_len, hl6]; exact hO7, by rw [hiAg_len]; exact hlen, hiAg_up HU.out s p⟩
    obtain ⟨_, _, er, _, _, _, hrd7⟩ := hO7.rdr
    cases er
    obtain ⟨_, _, eg7, f0, f1, f2, f3⟩ := hrd7 k (r.ag p) (List.getElem?_set_self hlt)
    cases eg7
    simp only [HR.ag] at f0 f1 f2 f3
    have HI7 := Lib.hid hI7
    obtain ⟨_, _, _, _⟩ := h47.cells
    clear hI7 hrd7 hO7 hl6
    obtain ⟨_, _, _, _⟩ := hX7.frees
    obtain ⟨_, _, _, _⟩ := hX7.cells
    have hZ := at4_put hX7 (.int .i64 r.s) (.int .i64 (r.t + 1)) (.int .i64 p) (.string r.d)
    have ho8 := put4_only w7 gb (.int .i64 r.s) (.int .i64 (r.t + 1)) (.int .i64 p) (.string r.d)
    have hI8 := Lib.hid (HI7.out.onlyRec hX7 hghb (fun e => hgbg (Option.some.inj e).symm) ho8)
    have hb8 := hb7.trans (ho8.below hbb)
    have hK8 := hK7.trans (keptH_row (row := some gb) (fun q hq => ⟨_, by cases hq; exact hX7⟩) (only_grown ho8))
    obtain ⟨d0, d1, d2, d3⟩ := hZ.cells
    go_wp2_with fail
    refine bodyPost_ret (v := .tuple #[.agg #[.int .i64 r.s, .int .i64 (r.t + 1), .int .i64 p, .string r.d], .bool true]) (by simp [results, Try.results31, go_sem, d0, d1, d2, d3]) rfl ⟨rfl, ⟨_, hI8.out⟩, hb8, hK8⟩
end Go.Proofs.Ytaekefedmobfoaa
