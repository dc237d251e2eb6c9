/- queue: a call, of both sides. -/
import Derived.Test.YtgmggilnhkdceaaQuJ
import Derived.Test.YtgmggilnhkdceaaCrcD
namespace Go.Proofs.Ytgmggilnhkdceaa
open Go.RowKit
set_option linter.unusedVariables false
set_option linter.unusedSimpArgs false
theorem At3.keptQ {T : TypeId} {W W' : World} {g : Nat} {c0 c1 c2 : Value} (h : At3 T W g c0 c1 c2) (hk : KeptQ W W') (h1 : T ≠ 119) (h2 : T ≠ 71) : At3 T W' g c0 c1 c2 := by
  unfold At3 at h ⊢
  rw [hk.block g _ T _ h h1 h2]
  exact h
theorem QIn.drew {W : World} {base gq : Nat} {m b : Int} {v : Value} {l : List ByteArray} (h : QIn W base gq m b v l) : QIn W.drew base gq m b v l := ⟨h.bs, h.at4.drew, h.own.drew, h.len, h.tot⟩
theorem QIn.onlyG {W W' : World} {base gq g : Nat} {T : TypeId} {m b : Int} {v : Value} {l : List ByteArray} {c0 c1 c2 : Value} (h : QIn W base gq m b v l) (x : At3 T W g c0 c1 c2) (ho : Only g W W') (h1 : T ≠ 119) (h2 : T ≠ 71) : QIn W' base gq m b v l :=
  ⟨h.bs, h.at4.only (fun e => by
    subst e
    have h5 := h.at4
    unfold At3 at x
    unfold At4 at h5
    rw [x] at h5
    simp only [Option.some.injEq, Obj.cells.injEq] at h5
    exact h1 h5.2.1) ho, h.own.onlyG (x := x) ho (fun e => h2 e.symm), h.len, h.tot⟩
theorem keptQ_onlyG {W W' : World} {g : Nat} {T : TypeId} {c0 c1 c2 : Value} (B : Nat) (hB : B ≤ g) (hs : W.heap.size ≤ g ∨ True) (ho : Only g W W') (w : World) (hk : KeptQ w W) (hg : w.heap.size ≤ g) : KeptQ w W' :=
  ⟨by have := hk.size; rw [ho.size]; exact this, fun k cs T fz h h1 h2 => by
    have hlt := lt_of_block h
    rw [ho.block k (by omega)]
    exact hk.block k cs T fz h h1 h2⟩
/-- What waits behind a Push, and whether there was room. -/
def quFit (M B : Int) (l zs : List ByteArray) : Bool := decide ((l.length : Int) + zs.length ≤ M ∧ quTot l + quTot zs ≤ B)
def quPs (M B : Int) (l zs : List ByteArray) : List ByteArray := if quFit M B l zs = true then l ++ zs else l
theorem quPushAll_any {w : World} {base gq : Nat} {m b : Int} {v : Value} {l : List ByteArray} (h : QIn w base gq m b v l) (zs : List ByteArray) {vz : Value} {bz : Nat} {ez : TypeId} (hz : OwnE w bz ez 1 vz zs.length (quV zs)) :
    Calls Try.prog 42 #[.pointer (some ⟨gq, 0, none⟩), vz] w fun e w' => e = .returned (.bool (quFit (quC m) (quC b) l zs)) ∧ (∃ v', QIn w' base gq m b v' (quPs (quC m) (quC b) l zs)) ∧ Below base w w' ∧ KeptQ w w' := by
  have hbz : base ≤ w.heap.size := by have := h.at4.lt; have := h.bs; omega
  by_cases h1 : (l.length : Int) + zs.length ≤ quC m
  · by_cases h2 : quTot l + quTot zs ≤ quC b
    · have e : quFit (quC m) (quC b) l zs = true := decide_eq_true ⟨h1, h2⟩
      rw [quPs, e, if_pos rfl]
      exact quPushV_any h zs hz h1 h2
    · have e : quFit (quC m) (quC b) l zs = false := decide_eq_false (fun c => h2 c.2)
      rw [quPs, e, if_neg (by simp)]
      refine (quPushMuch_any h zs hz h1 (by omega)).mono ?_
      rintro e w' ⟨rfl, hk⟩
      exact ⟨rfl, ⟨v, h.later hk⟩, hk.mono hbz, keptQ_below hk⟩
  · have e : quFit (quC m) (quC b) l zs = false := decide_eq_false (fun c => h1 c.1)
    rw [quPs, e, if_neg (by simp)]
    obtain ⟨xa, xc, rfl, _⟩ := hz.src
    refine (quPushMany_any h xa zs.length xc (by omega)).mono ?_
    rintro e w' ⟨rfl, hk⟩
    exact ⟨rfl, ⟨v, h.later hk⟩, hk.mono hbz, keptQ_below hk⟩
theorem refQPushAll_any {w : World} {vl vz : Value} {l zs : List ByteArray} (M B : Int) (hL : OwnE w 0 9 1 vl l.length (quV l)) (hZ : OwnE w 0 9 1 vz zs.length (quV zs)) (hl1 : l.length ≤ 1073741824) (hl2 : zs.length ≤ 1073741824) (ht1 : quTot l ≤ 1073741824) (ht2 : quTot zs ≤ 1073741824) :
    Calls Try.prog 62 #[.agg #[.int .i64 M, .int .i64 B, vl], vz] w fun e w' => ∃ v', e = .returned (.tuple #[.agg #[.int .i64 M, .int .i64 B, v'], .bool (quFit M B l zs)]) ∧ OwnE w' 0 9 1 v' (quPs M B l zs).length (quV (quPs M B l zs)) ∧ Below w.heap.size w w' := by
  by_cases h1 : (l.length : Int) + zs.length ≤ M
  · by_cases h2 : quTot l + quTot zs ≤ B
    · have e : quFit M B l zs = true := decide_eq_true ⟨h1, h2⟩
      rw [quPs, e, if_pos rfl, List.length_append]
      exact refQPushYes M B hL hZ hl1 hl2 ht1 ht2 h1 h2
    · have e : quFit M B l zs = false := decide_eq_false (fun c => h2 c.2)
      rw [quPs, e, if_neg (by simp)]
      refine (refQPushMuch M B hL hZ hl1 hl2 ht1 ht2 h1 (by omega)).mono ?_
      rintro e w' ⟨rfl, hk⟩
      exact ⟨_, rfl, hL.later hk, hk⟩
  · have e : quFit M B l zs = false := decide_eq_false (fun c => h1 c.1)
    rw [quPs, e, if_neg (by simp)]
    refine (refQPushMany M B hL hZ hl1 hl2 ht1 ht2 (by omega)).mono ?_
    rintro e w' ⟨rfl, hk⟩
    exact ⟨_, rfl, hL.later hk, hk⟩
set_option maxRecDepth 100000 in
set_option maxHeartbeats 6400000 in
theorem quDo0 {w : World} {base gq : Nat} {m b : Int} {v vx : Value} {l : List ByteArray} (h : QIn w base gq m b v l) (hx : OwnE w 0 9 1 vx l.length (quV l)) (kd N : Int) (es : List ByteArray) (aL : Option Addr) (cL : Nat) (hr : ReadsT w aL es) (hel : es.length ≤ 9223372036854775807) (hes : ∀ s ∈ es, s.size ≤ 9223372036854775807) (hk : kd = 0) :
    Calls Try.prog 36 #[.pointer (some ⟨gq, 0, none⟩), .agg #[.int .i64 (quC m), .int .i64 (quC b), vx], .agg #[.int .i64 kd, .int .i64 N, .slice aL es.length cL]] w fun e w' => ∃ l' v' vx', e = .returned (.tuple #[.agg #[.int .i64 (quC m), .int .i64 (quC b), vx'], .bool true]) ∧ QIn w' base gq m b v' l' ∧ OwnE w' 0 9 1 vx' l'.length (quV l') ∧ Below base w w' ∧ KeptQ w w' := by
  obtain ⟨xa, xc, rfl, _⟩ := hx.src
  have hbz : base ≤ w.heap.size := by have := h.at4.lt; have := h.bs; omega
  have hll : l.length ≤ 1073741824 := by have := h.len; have := quC_bd m; omega
  have hlt : quTot l ≤ 1073741824 := by have := h.tot; have := quC_bd b; omega
  subst hk
  obtain ⟨cm, hcm⟩ : ∃ z, z = quC m := ⟨_, rfl⟩
  obtain ⟨cb, hcb⟩ : ∃ z, z = quC b := ⟨_, rfl⟩
  rw [← hcm, ← hcb]
  have HCM := Lib.hid hcm
  have HCB := Lib.hid hcb
  clear hcm hcb
  have hX0 : At3 74 (((w.alloc (.cells #[.int .i64 cm, .int .i64 cb, .slice xa l.length xc] 74)).alloc (.cells #[.int .i64 0, .int .i64 N, .slice aL es.length cL] 79)).alloc (.cells #[.int .i64 0, .int .i64 0, .slice none 0 0] 74)) w.heap.size (.int .i64 cm) (.int .i64 cb) (.slice xa l.length xc) := ((at3_new 74 _ _ (.int .i64 cm) (.int .i64 cb) (.slice xa l.length xc) rfl).alloc _).alloc _
  have hX1 : At3 79 (((w.alloc (.cells #[.int .i64 cm, .int .i64 cb, .slice xa l.length xc] 74)).alloc (.cells #[.int .i64 0, .int .i64 N, .slice aL es.length cL] 79)).alloc (.cells #[.int .i64 0, .int .i64 0, .slice none 0 0] 74)) (w.heap.size + 1) (.int .i64 0) (.int .i64 N) (.slice aL es.length cL) := (at3_new 79 _ _ (.int .i64 0) (.int .i64 N) (.slice aL es.length cL) (by simp)).alloc _
  have hX2 : At3 74 (((w.alloc (.cells #[.int .i64 cm, .int .i64 cb, .slice xa l.length xc] 74)).alloc (.cells #[.int .i64 0, .int .i64 N, .slice aL es.length cL] 79)).alloc (.cells #[.int .i64 0, .int .i64 0, .slice none 0 0] 74)) (w.heap.size + 1 + 1) (.int .i64 0) (.int .i64 0) (.slice none 0 0) := at3_new 74 _ _ (.int .i64 0) (.int .i64 0) (.slice none 0 0) (by simp)
  have hb : Below w.heap.size w (((w.alloc (.cells #[.int .i64 cm, .int .i64 cb, .slice xa l.length xc] 74)).alloc (.cells #[.int .i64 0, .int .i64 N, .slice aL es.length cL] 79)).alloc (.cells #[.int .i64 0, .int .i64 0, .slice none 0 0] 74)) := (((Below.refl _ _).alloc (Nat.le_refl _) _).alloc (by simp) _).alloc (by simp; omega) _
  go_enter Try.func36, Try.ntmps36
  go_upto_region 1 with fail
  generalize (((w.alloc (.cells #[.int .i64 cm, .int .i64 cb, .slice xa l.length xc] 74)).alloc (.cells #[.int .i64 0, .int .i64 N, .slice aL es.length cL] 79)).alloc (.cells #[.int .i64 0, .int .i64 0, .slice none 0 0] 74)) = w2 at hX0 hX1 hX2 hb ⊢
  generalize hg2 : w.heap.size + 1 + 1 = g2 at hX2 ⊢
  generalize hg1 : w.heap.size + 1 = g1 at hX1 hg2 ⊢
  generalize hg0 : w.heap.size = g0 at hX0 hb hg1 ⊢
  have hne01 : g0 ≠ g1 := by omega
  have hne02 : g0 ≠ g2 := by omega
  have hle1 : g0 ≤ g1 := by omega
  have hne10 : g1 ≠ g0 := by omega
  have hne12 : g1 ≠ g2 := by omega
  have hle2 : g0 ≤ g2 := by omega
  have hne20 : g2 ≠ g0 := by omega
  have hne21 : g2 ≠ g1 := by omega
  have HG := Lib.hid hg0
  clear hg0 hg1 hg2
  obtain ⟨_, _, _⟩ := hX0.frees
  obtain ⟨_, _, _⟩ := hX0.cells
  obtain ⟨_, _, _⟩ := hX1.frees
  obtain ⟨_, _, _⟩ := hX1.cells
  obtain ⟨_, _, _⟩ := hX2.frees
  obtain ⟨_, _, _⟩ := hX2.cells
  have hbw : Below w.heap.size w w2 := by rw [HG.out]; exact hb
  have hQ2 := h.later hbw
  have hx2 := hx.later hbw
  have hr2 := hr.later hbw
  have hK2 := keptQ_below hbw
  have hg0 : base ≤ g0 := by rw [← HG.out]; exact hbz
  clear h hx hr hbw
  have HFew := Lib.hid (few_any es aL cL es.length 6 20 w2 rfl hr2 hel hes (by omega) (by omega))
  obtain ⟨zs, hzs⟩ : ∃ zs, zs = (es.take 6).map (cutB · 20) := ⟨_, rfl⟩
  have hzl : zs.length ≤ 6 := by rw [hzs, List.length_map, List.length_take]; omega
  have HL0 : Hid ((es.take 6).length = zs.length) := Lib.hid (by rw [hzs, List.length_map])
  have HL1 : Hid (((es.take 6).map (cutB · 20)).map Value.string = quV zs) := Lib.hid (by rw [hzs]; rfl)
  have hzt : quTot zs ≤ 1073741824 := by
    have := quTot_le zs 20 (fun s hs => by
      rw [hzs] at hs
      obtain ⟨t, _, rfl⟩ := List.mem_map.1 hs
      exact cutB_size t 20)
    omega
  clear hzs hr2
  obtain ⟨i0, hi, hz0, hz1, hz2⟩ := info_parts info_qtext
  go_upto_region 3 with fail
  go_wp2_with fail
  refine HFew.out.mono ?_
  rintro e w3 ⟨vz, rfl, hown, hk3⟩
  rw [HL0.out, HL1.out] at hown
  have hZ3 := (ownE_of hown).base (Nat.zero_le _)
  have hX0_3 := hX0.later hk3
  have hX1_3 := hX1.later hk3
  have hX2_3 := hX2.later hk3
  have hQ3 := hQ2.later hk3
  have hx3 := hx2.later hk3
  have hb3 := hb.trans (hk3.mono (Nat.le_of_lt hX0.lt))
  have hK3 := hK2.trans (keptQ_below hk3)
  clear hown hk3 hX0 hX1 hX2 hQ2 hx2 hb hK2 HFew HL0 HL1
  obtain ⟨az, cz, rfl⟩ := hZ3.form
  go_wp2_with fail
  go_loopw [9, 33] (fun v2 j wx => ∃ j' : Nat, j' ≤ zs.length ∧ j = .int .i64 j' ∧ OwnE wx w3.heap.size 71 1 v2 j' (quV (zs.take j')) ∧ Below w3.heap.size w3 wx) (fun _ j _ => zs.length - (intOf j).toNat)
  case atStart => exact ⟨0, Nat.zero_le _, rfl, ownE_nil _ _ _ _, Below.refl _ _⟩
  case round =>
    obtain ⟨j', hj, rfl, hO, hbx⟩ := hrel
    by_cases hjl : j' < zs.length
    · obtain ⟨s, hs⟩ : ∃ s, zs[j']? = some s := ⟨_, List.getElem?_eq_getElem hjl⟩
      obtain ⟨g, off, cap, e, _, _, hcl⟩ := (hZ3.later hbx).texts (by omega)
      simp only [Value.slice.injEq, true_and] at e
      obtain ⟨rfl, rfl⟩ := e
      have hcell := hcl j' s hs
      have HV := Lib.hid (quV_at zs j' s hs)
      clear hs hcl
      generalize quV (zs.take j') = xs at hO HV
      go_wp2_with (at_builtin; refine append_atE1 (W := w3) rfl (.tmp 37) (.tmp 39) 85 rfl 71 i0 (.string ByteArray.empty) 16 Try.underlying85 hi hz0 hz1 hz2 rfl w3.heap.size _ j' xs rfl hO (.string s) rfl rfl ?d1 ?d2 hbx.size w3.heap.size (Nat.le_refl _) hbx ?_)
      case d1 => unfold maxLen; omega
      case d2 => omega
      intro v5 w5 hO5 hb5 _ _
      rw [← HV.out] at hO5
      clear hO hbx hcell
      go_wp2
      go_roundw
      case rel => exact ⟨j' + 1, by omega, by go_num, hO5, hb5⟩
      case measure => simp [intOf]; omega
    · have hje : j' = zs.length := by omega
      rw [hje, List.take_length] at hO
      subst hje
      have hZ4 := hZ3.later hbx
      have hX0_4 := hX0_3.later hbx
      have hX1_4 := hX1_3.later hbx
      have hX2_4 := hX2_3.later hbx
      have hQ4 := hQ3.later hbx
      have hx4 := hx3.later hbx
      have hb4 := hb3.trans (hbx.mono (Nat.le_of_lt hX0_3.lt))
      have hK4 := hK3.trans (keptQ_below hbx)
      obtain ⟨ao, co, rfl⟩ := hO.form
      clear hZ3 hX0_3 hX1_3 hX2_3 hQ3 hx3 hb3 hK3 hbx
      obtain ⟨_, _, _⟩ := hX0_4.cells
      have HPu := Lib.hid (refQPushAll_any cm cb hx4 hZ4 hll (by omega) hlt hzt)
      go_wp2_with fail
      refine HPu.out.mono ?_
      rintro e w5 ⟨vy, rfl, hy5, hk5⟩
      obtain ⟨ay, cy, rfl⟩ := hy5.form
      have hO5 := (hO.later hk5).alloc (.cells #[.int .i64 cm, .int .i64 cb, .slice ay (quPs cm cb l zs).length cy] 74)
      have hX2_5 := (hX2_4.later hk5).alloc (.cells #[.int .i64 cm, .int .i64 cb, .slice ay (quPs cm cb l zs).length cy] 74)
      have hal : Below w5.heap.size w5 (w5.alloc (.cells #[.int .i64 cm, .int .i64 cb, .slice ay (quPs cm cb l zs).length cy] 74)) := (Below.refl _ _).alloc (Nat.le_refl _) _
      have hQ5 := (hQ4.later hk5).later hal
      have hy6 := hy5.later hal
      have hY := at3_new 74 w5 w5.heap.size (.int .i64 cm) (.int .i64 cb) (.slice ay (quPs cm cb l zs).length cy) rfl
      have hb5 := (hb4.trans (hk5.mono (Nat.le_of_lt hX0_4.lt))).trans (hal.mono (by have := (hX0_4.later hk5).lt; omega))
      have hK5 := (hK4.trans (keptQ_below hk5)).trans (keptQ_below hal)
      have hgY : g2 < w5.heap.size := (hX2_4.later hk5).lt
      go_upto_region 11 with fail
      generalize w5.alloc (.cells #[.int .i64 cm, .int .i64 cb, .slice ay (quPs cm cb l zs).length cy] 74) = w6 at hO5 hX2_5 hQ5 hy6 hY hb5 hK5 ⊢
      generalize w5.heap.size = gy at hY hgY ⊢
      clear hal hZ4 hX0_4 hX1_4 hX2_4 hQ4 hx4 hb4 hK4 HPu hy5 hk5 hO
      have HPs := Lib.hid (quPushAll_any hQ5.drew zs hO5.drew)
      rw [← HCM.out, ← HCB.out] at HPs
      generalize quFit cm cb l zs = ok at HPs ⊢
      have HRL : Hid (∃ L, L = quPs cm cb l zs) := Lib.hid ⟨_, rfl⟩
      generalize hLL : quPs cm cb l zs = L at HPs hY hy6 ⊢
      clear hLL HRL
      obtain ⟨_, _, _⟩ := hY.cells
      obtain ⟨_, _, _⟩ := hX2_5.frees
      obtain ⟨_, _, _⟩ := hX2_5.cells
      go_region_with (first | (go_at_call 42; refine HPs.out.mono ?_; rintro e w7 ⟨rfl, ⟨v7, hQ7⟩, hk7, hK7⟩; have hY7 := hY.drew.keptQ hK7 (by decide) (by decide); have hX2_7 := hX2_5.drew.keptQ hK7 (by decide) (by decide); obtain ⟨_, _, _⟩ := hY7.cells; obtain ⟨_, _, _⟩ := hX2_7.frees; obtain ⟨_, _, _⟩ := hX2_7.cells))
      all_goals
        have ho8 := store3_only w7 g2 (.int .i64 cm) (.int .i64 cb) (.slice ay L.length cy)
        have hZ := at3_store hX2_7 (.int .i64 cm) (.int .i64 cb) (.slice ay L.length cy)
        have hQ8 := hQ7.onlyG hX2_7 ho8 (by decide) (by decide)
        have hy8 := (hy6.drew.keptQ hK7 (by decide) (by decide)).onlyG (x := hX2_7) ho8 (by decide)
        have hb8 := ((hb5.mono hg0).drew.trans hk7).trans (ho8.below (Nat.le_trans hg0 hle2))
        have hK8 := keptQ_onlyG (T := 74) (c0 := .int .i64 0) (c1 := .int .i64 0) (c2 := .int .i64 0) g0 hle2 (.inr trivial) ho8 w (hK5.drew.trans hK7) (by rw [HG.out]; exact hle2)
        obtain ⟨d0, d1, d2⟩ := hZ.cells
        go_wp2_with fail
        refine bodyPost_ret (v := .tuple #[.agg #[.int .i64 cm, .int .i64 cb, .slice ay L.length cy], .bool true]) (by simp [results, Try.results36, go_sem, d0, d1, d2]) rfl ⟨L, v7, _, rfl, hQ8, hy8, hb8, hK8⟩
set_option maxRecDepth 100000 in
set_option maxHeartbeats 6400000 in
theorem quDo1a {w : World} {base gq : Nat} {m b : Int} {v vx : Value}  (h : QIn w base gq m b v ([] : List ByteArray)) (hx : OwnE w 0 9 1 vx ([] : List ByteArray).length (quV ([] : List ByteArray))) (kd N : Int) (es : List ByteArray) (aL : Option Addr) (cL : Nat) (hr : ReadsT w aL es) (hel : es.length ≤ 9223372036854775807) (hes : ∀ s ∈ es, s.size ≤ 9223372036854775807) (hk : kd = 1) :
    Calls Try.prog 36 #[.pointer (some ⟨gq, 0, none⟩), .agg #[.int .i64 (quC m), .int .i64 (quC b), vx], .agg #[.int .i64 kd, .int .i64 N, .slice aL es.length cL]] w fun e w' => ∃ l' v' vx', e = .returned (.tuple #[.agg #[.int .i64 (quC m), .int .i64 (quC b), vx'], .bool true]) ∧ QIn w' base gq m b v' l' ∧ OwnE w' 0 9 1 vx' l'.length (quV l') ∧ Below base w w' ∧ KeptQ w w' := by
  have hx' : OwnE w 0 9 1 vx 0 (quV ([] : List ByteArray)) := hx
  obtain ⟨xa, xc, rfl, _⟩ := hx'.src
  clear hx
  have hx := hx'
  clear hx'
  have hbz : base ≤ w.heap.size := by have := h.at4.lt; have := h.bs; omega
  have hll : ([] : List ByteArray).length ≤ 1073741824 := by have := h.len; have := quC_bd m; omega
  subst hk
  obtain ⟨cm, hcm⟩ : ∃ z, z = quC m := ⟨_, rfl⟩
  obtain ⟨cb, hcb⟩ : ∃ z, z = quC b := ⟨_, rfl⟩
  rw [← hcm, ← hcb]
  have HCM := Lib.hid hcm
  have HCB := Lib.hid hcb
  clear hcm hcb
  have hX0 : At3 74 (((w.alloc (.cells #[.int .i64 cm, .int .i64 cb, .slice xa 0 xc] 74)).alloc (.cells #[.int .i64 1, .int .i64 N, .slice aL es.length cL] 79)).alloc (.cells #[.int .i64 0, .int .i64 0, .slice none 0 0] 74)) w.heap.size (.int .i64 cm) (.int .i64 cb) (.slice xa 0 xc) := ((at3_new 74 _ _ (.int .i64 cm) (.int .i64 cb) (.slice xa 0 xc) rfl).alloc _).alloc _
  have hX1 : At3 79 (((w.alloc (.cells #[.int .i64 cm, .int .i64 cb, .slice xa 0 xc] 74)).alloc (.cells #[.int .i64 1, .int .i64 N, .slice aL es.length cL] 79)).alloc (.cells #[.int .i64 0, .int .i64 0, .slice none 0 0] 74)) (w.heap.size + 1) (.int .i64 1) (.int .i64 N) (.slice aL es.length cL) := (at3_new 79 _ _ (.int .i64 1) (.int .i64 N) (.slice aL es.length cL) (by simp)).alloc _
  have hX2 : At3 74 (((w.alloc (.cells #[.int .i64 cm, .int .i64 cb, .slice xa 0 xc] 74)).alloc (.cells #[.int .i64 1, .int .i64 N, .slice aL es.length cL] 79)).alloc (.cells #[.int .i64 0, .int .i64 0, .slice none 0 0] 74)) (w.heap.size + 1 + 1) (.int .i64 0) (.int .i64 0) (.slice none 0 0) := at3_new 74 _ _ (.int .i64 0) (.int .i64 0) (.slice none 0 0) (by simp)
  have hb : Below w.heap.size w (((w.alloc (.cells #[.int .i64 cm, .int .i64 cb, .slice xa 0 xc] 74)).alloc (.cells #[.int .i64 1, .int .i64 N, .slice aL es.length cL] 79)).alloc (.cells #[.int .i64 0, .int .i64 0, .slice none 0 0] 74)) := (((Below.refl _ _).alloc (Nat.le_refl _) _).alloc (by simp) _).alloc (by simp; omega) _
  go_enter Try.func36, Try.ntmps36
  go_upto_region 1 with fail
  generalize (((w.alloc (.cells #[.int .i64 cm, .int .i64 cb, .slice xa 0 xc] 74)).alloc (.cells #[.int .i64 1, .int .i64 N, .slice aL es.length cL] 79)).alloc (.cells #[.int .i64 0, .int .i64 0, .slice none 0 0] 74)) = w2 at hX0 hX1 hX2 hb ⊢
  generalize hg2 : w.heap.size + 1 + 1 = g2 at hX2 ⊢
  generalize hg1 : w.heap.size + 1 = g1 at hX1 hg2 ⊢
  generalize hg0 : w.heap.size = g0 at hX0 hb hg1 ⊢
  have hne01 : g0 ≠ g1 := by omega
  have hne02 : g0 ≠ g2 := by omega
  have hle1 : g0 ≤ g1 := by omega
  have hne10 : g1 ≠ g0 := by omega
  have hne12 : g1 ≠ g2 := by omega
  have hle2 : g0 ≤ g2 := by omega
  have hne20 : g2 ≠ g0 := by omega
  have hne21 : g2 ≠ g1 := by omega
  have HG := Lib.hid hg0
  clear hg0 hg1 hg2
  obtain ⟨_, _, _⟩ := hX0.frees
  obtain ⟨_, _, _⟩ := hX0.cells
  obtain ⟨_, _, _⟩ := hX1.frees
  obtain ⟨_, _, _⟩ := hX1.cells
  obtain ⟨_, _, _⟩ := hX2.frees
  obtain ⟨_, _, _⟩ := hX2.cells
  have hbw : Below w.heap.size w w2 := by rw [HG.out]; exact hb
  have hQ2 := h.later hbw
  have hx2 := hx.later hbw
  have hr2 := hr.later hbw
  have hK2 := keptQ_below hbw
  have hg0 : base ≤ g0 := by rw [← HG.out]; exact hbz
  clear h hx hr hbw
  have HPop := Lib.hid (refQPop0_any cm cb hx2)
  have HQp := Lib.hid (fun W (h : Below w2.heap.size w2 W) => quPop0_any (hQ2.later h))
  go_upto_region 13 with fail
  go_wp2_with fail
  refine HPop.out.mono ?_
  rintro e w5 ⟨rfl, hk5⟩
  have hy5 := hx2.later hk5
  have hal : Below w5.heap.size w5 (w5.alloc (.cells #[.int .i64 cm, .int .i64 cb, .slice xa 0 xc] 74)) := (Below.refl _ _).alloc (Nat.le_refl _) _
  have hk6 := hk5.trans (hal.mono hk5.size)
  have hX2_5 := hX2.later hk6
  have hy6 := hy5.later hal
  have hY := at3_new 74 w5 w5.heap.size (.int .i64 cm) (.int .i64 cb) (.slice xa 0 xc) rfl
  have hb5 := hb.trans (hk6.mono (Nat.le_of_lt hX0.lt))
  have hK5 := hK2.trans (keptQ_below hk6)
  have HQ6 := Lib.hid (HQp.out _ hk6)
  have hQ6 := hQ2.later hk6
  go_upto_region 14 with fail
  generalize w5.alloc (.cells #[.int .i64 cm, .int .i64 cb, .slice xa 0 xc] 74) = w6 at hX2_5 hy6 hY hb5 hK5 HQ6 hQ6 ⊢
  generalize w5.heap.size = gy at hY ⊢
  clear hal hk6 hk5 hy5 HPop HQp hX0 hX1 hX2 hQ2 hx2 hb hK2
  go_wp2_with fail
  refine HQ6.out.mono ?_
  rintro e w7 ⟨rfl, hq7⟩
  subst hq7
  have hY7 := hY
  have hX2_7 := hX2_5
  have hQ7 := hQ6
  have hy7 := hy6
  have hb7 := hb5.mono hg0
  have hK7 := hK5
  clear hY hX2_5 hQ6 hy6 hb5 hK5 HQ6
  obtain ⟨_, _, _⟩ := hY7.cells
  obtain ⟨_, _, _⟩ := hX2_7.frees
  obtain ⟨_, _, _⟩ := hX2_7.cells
  have ho8 := store3_only w7 g2 (.int .i64 cm) (.int .i64 cb) (.slice xa 0 xc)
  have hZ := at3_store hX2_7 (.int .i64 cm) (.int .i64 cb) (.slice xa 0 xc)
  have hQ8 := hQ7.onlyG hX2_7 ho8 (by decide) (by decide)
  have hy8 := hy7.onlyG (x := hX2_7) ho8 (by decide)
  have hb8 := hb7.trans (ho8.below (Nat.le_trans hg0 hle2))
  have hK8 := keptQ_onlyG (T := 74) (c0 := .int .i64 0) (c1 := .int .i64 0) (c2 := .int .i64 0) g0 hle2 (.inr trivial) ho8 w hK7 (by rw [HG.out]; exact hle2)
  obtain ⟨d0, d1, d2⟩ := hZ.cells
  go_wp2_with fail
  refine bodyPost_ret (v := .tuple #[.agg #[.int .i64 cm, .int .i64 cb, .slice xa 0 xc], .bool true]) (by simp [results, Try.results36, go_sem, d0, d1, d2]) rfl ⟨[], _, _, rfl, hQ8, hy8, hb8, hK8⟩
set_option maxRecDepth 100000 in
set_option maxHeartbeats 6400000 in
theorem quDo1b {w : World} {base gq : Nat} {m b : Int} {v vx : Value} {s : ByteArray} {r : List ByteArray} (h : QIn w base gq m b v (s :: r)) (hx : OwnE w 0 9 1 vx (s :: r).length (quV (s :: r))) (kd N : Int) (es : List ByteArray) (aL : Option Addr) (cL : Nat) (hr : ReadsT w aL es) (hel : es.length ≤ 9223372036854775807) (hes : ∀ s ∈ es, s.size ≤ 9223372036854775807) (hk : kd = 1) :
    Calls Try.prog 36 #[.pointer (some ⟨gq, 0, none⟩), .agg #[.int .i64 (quC m), .int .i64 (quC b), vx], .agg #[.int .i64 kd, .int .i64 N, .slice aL es.length cL]] w fun e w' => ∃ l' v' vx', e = .returned (.tuple #[.agg #[.int .i64 (quC m), .int .i64 (quC b), vx'], .bool true]) ∧ QIn w' base gq m b v' l' ∧ OwnE w' 0 9 1 vx' l'.length (quV l') ∧ Below base w w' ∧ KeptQ w w' := by
  have hx' : OwnE w 0 9 1 vx (r.length + 1) (quV (s :: r)) := hx
  obtain ⟨xa, xc, rfl, _⟩ := hx'.src
  clear hx
  have hx := hx'
  clear hx'
  have hbz : base ≤ w.heap.size := by have := h.at4.lt; have := h.bs; omega
  have hll : (s :: r).length ≤ 1073741824 := by have := h.len; have := quC_bd m; omega
  subst hk
  obtain ⟨cm, hcm⟩ : ∃ z, z = quC m := ⟨_, rfl⟩
  obtain ⟨cb, hcb⟩ : ∃ z, z = quC b := ⟨_, rfl⟩
  rw [← hcm, ← hcb]
  have HCM := Lib.hid hcm
  have HCB := Lib.hid hcb
  clear hcm hcb
  have hX0 : At3 74 (((w.alloc (.cells #[.int .i64 cm, .int .i64 cb, .slice xa (r.length + 1) xc] 74)).alloc (.cells #[.int .i64 1, .int .i64 N, .slice aL es.length cL] 79)).alloc (.cells #[.int .i64 0, .int .i64 0, .slice none 0 0] 74)) w.heap.size (.int .i64 cm) (.int .i64 cb) (.slice xa (r.length + 1) xc) := ((at3_new 74 _ _ (.int .i64 cm) (.int .i64 cb) (.slice xa (r.length + 1) xc) rfl).alloc _).alloc _
  have hX1 : At3 79 (((w.alloc (.cells #[.int .i64 cm, .int .i64 cb, .slice xa (r.length + 1) xc] 74)).alloc (.cells #[.int .i64 1, .int .i64 N, .slice aL es.length cL] 79)).alloc (.cells #[.int .i64 0, .int .i64 0, .slice none 0 0] 74)) (w.heap.size + 1) (.int .i64 1) (.int .i64 N) (.slice aL es.length cL) := (at3_new 79 _ _ (.int .i64 1) (.int .i64 N) (.slice aL es.length cL) (by simp)).alloc _
  have hX2 : At3 74 (((w.alloc (.cells #[.int .i64 cm, .int .i64 cb, .slice xa (r.length + 1) xc] 74)).alloc (.cells #[.int .i64 1, .int .i64 N, .slice aL es.length cL] 79)).alloc (.cells #[.int .i64 0, .int .i64 0, .slice none 0 0] 74)) (w.heap.size + 1 + 1) (.int .i64 0) (.int .i64 0) (.slice none 0 0) := at3_new 74 _ _ (.int .i64 0) (.int .i64 0) (.slice none 0 0) (by simp)
  have hb : Below w.heap.size w (((w.alloc (.cells #[.int .i64 cm, .int .i64 cb, .slice xa (r.length + 1) xc] 74)).alloc (.cells #[.int .i64 1, .int .i64 N, .slice aL es.length cL] 79)).alloc (.cells #[.int .i64 0, .int .i64 0, .slice none 0 0] 74)) := (((Below.refl _ _).alloc (Nat.le_refl _) _).alloc (by simp) _).alloc (by simp; omega) _
  go_enter Try.func36, Try.ntmps36
  go_upto_region 1 with fail
  generalize (((w.alloc (.cells #[.int .i64 cm, .int .i64 cb, .slice xa (r.length + 1) xc] 74)).alloc (.cells #[.int .i64 1, .int .i64 N, .slice aL es.length cL] 79)).alloc (.cells #[.int .i64 0, .int .i64 0, .slice none 0 0] 74)) = w2 at hX0 hX1 hX2 hb ⊢
  generalize hg2 : w.heap.size + 1 + 1 = g2 at hX2 ⊢
  generalize hg1 : w.heap.size + 1 = g1 at hX1 hg2 ⊢
  generalize hg0 : w.heap.size = g0 at hX0 hb hg1 ⊢
  have hne01 : g0 ≠ g1 := by omega
  have hne02 : g0 ≠ g2 := by omega
  have hle1 : g0 ≤ g1 := by omega
  have hne10 : g1 ≠ g0 := by omega
  have hne12 : g1 ≠ g2 := by omega
  have hle2 : g0 ≤ g2 := by omega
  have hne20 : g2 ≠ g0 := by omega
  have hne21 : g2 ≠ g1 := by omega
  have HG := Lib.hid hg0
  clear hg0 hg1 hg2
  obtain ⟨_, _, _⟩ := hX0.frees
  obtain ⟨_, _, _⟩ := hX0.cells
  obtain ⟨_, _, _⟩ := hX1.frees
  obtain ⟨_, _, _⟩ := hX1.cells
  obtain ⟨_, _, _⟩ := hX2.frees
  obtain ⟨_, _, _⟩ := hX2.cells
  have hbw : Below w.heap.size w w2 := by rw [HG.out]; exact hb
  have hQ2 := h.later hbw
  have hx2 := hx.later hbw
  have hr2 := hr.later hbw
  have hK2 := keptQ_below hbw
  have hg0 : base ≤ g0 := by rw [← HG.out]; exact hbz
  clear h hx hr hbw
  have HPop := Lib.hid (refQPop1_any cm cb (by simp at hll; omega) hx2)
  have HQp := Lib.hid (fun W (h : Below w2.heap.size w2 W) => quPop1_any (hQ2.later h))
  go_upto_region 13 with fail
  go_wp2_with fail
  refine HPop.out.mono ?_
  rintro e w5 ⟨vy, rfl, hy5, hk5⟩
  obtain ⟨ay, cy, rfl⟩ := hy5.form
  have hal : Below w5.heap.size w5 (w5.alloc (.cells #[.int .i64 cm, .int .i64 cb, .slice ay r.length cy] 74)) := (Below.refl _ _).alloc (Nat.le_refl _) _
  have hk6 := hk5.trans (hal.mono hk5.size)
  have hX2_5 := hX2.later hk6
  have hy6 := hy5.later hal
  have hY := at3_new 74 w5 w5.heap.size (.int .i64 cm) (.int .i64 cb) (.slice ay r.length cy) rfl
  have hb5 := hb.trans (hk6.mono (Nat.le_of_lt hX0.lt))
  have hK5 := hK2.trans (keptQ_below hk6)
  have HQ6 := Lib.hid (HQp.out _ hk6)
  have hQ6 := hQ2.later hk6
  go_upto_region 14 with fail
  generalize w5.alloc (.cells #[.int .i64 cm, .int .i64 cb, .slice ay r.length cy] 74) = w6 at hX2_5 hy6 hY hb5 hK5 HQ6 hQ6 ⊢
  generalize w5.heap.size = gy at hY ⊢
  clear hal hk6 hk5 hy5 HPop HQp hX0 hX1 hX2 hQ2 hx2 hb hK2
  go_wp2_with fail
  refine HQ6.out.mono ?_
  rintro e w7 ⟨rfl, ⟨v7, hQ7⟩, hk7, hK6⟩
  have hY7 := hY.keptQ hK6 (by decide) (by decide)
  have hX2_7 := hX2_5.keptQ hK6 (by decide) (by decide)
  have hy7 := hy6.keptQ hK6 (by decide) (by decide)
  have hb7 := (hb5.mono hg0).trans hk7
  have hK7 := hK5.trans hK6
  clear hY hX2_5 hQ6 hy6 hb5 hK5 HQ6
  obtain ⟨_, _, _⟩ := hY7.cells
  obtain ⟨_, _, _⟩ := hX2_7.frees
  obtain ⟨_, _, _⟩ := hX2_7.cells
  have ho8 := store3_only w7 g2 (.int .i64 cm) (.int .i64 cb) (.slice ay r.length cy)
  have hZ := at3_store hX2_7 (.int .i64 cm) (.int .i64 cb) (.slice ay r.length cy)
  have hQ8 := hQ7.onlyG hX2_7 ho8 (by decide) (by decide)
  have hy8 := hy7.onlyG (x := hX2_7) ho8 (by decide)
  have hb8 := hb7.trans (ho8.below (Nat.le_trans hg0 hle2))
  have hK8 := keptQ_onlyG (T := 74) (c0 := .int .i64 0) (c1 := .int .i64 0) (c2 := .int .i64 0) g0 hle2 (.inr trivial) ho8 w hK7 (by rw [HG.out]; exact hle2)
  obtain ⟨d0, d1, d2⟩ := hZ.cells
  go_wp2_with fail
  refine bodyPost_ret (v := .tuple #[.agg #[.int .i64 cm, .int .i64 cb, .slice ay r.length cy], .bool true]) (by simp [results, Try.results36, go_sem, d0, d1, d2]) rfl ⟨r, _, _, rfl, hQ8, hy8, hb8, hK8⟩
set_option maxRecDepth 100000 in
set_option maxHeartbeats 6400000 in
theorem quDo2 {w : World} {base gq : Nat} {m b : Int} {v vx : Value} {l : List ByteArray} (h : QIn w base gq m b v l) (hx : OwnE w 0 9 1 vx l.length (quV l)) (kd N : Int) (es : List ByteArray) (aL : Option Addr) (cL : Nat) (hr : ReadsT w aL es) (hel : es.length ≤ 9223372036854775807) (hes : ∀ s ∈ es, s.size ≤ 9223372036854775807) (hk0 : ¬kd = 0) (hk1 : ¬kd = 1) :
    Calls Try.prog 36 #[.pointer (some ⟨gq, 0, none⟩), .agg #[.int .i64 (quC m), .int .i64 (quC b), vx], .agg #[.int .i64 kd, .int .i64 N, .slice aL es.length cL]] w fun e w' => ∃ l' v' vx', e = .returned (.tuple #[.agg #[.int .i64 (quC m), .int .i64 (quC b), vx'], .bool true]) ∧ QIn w' base gq m b v' l' ∧ OwnE w' 0 9 1 vx' l'.length (quV l') ∧ Below base w w' ∧ KeptQ w w' := by
  obtain ⟨xa, xc, rfl, _⟩ := hx.src
  have hbz : base ≤ w.heap.size := by have := h.at4.lt; have := h.bs; omega
  have hll : l.length ≤ 1073741824 := by have := h.len; have := quC_bd m; omega
  have hlt : quTot l ≤ 1073741824 := by have := h.tot; have := quC_bd b; omega
  obtain ⟨cm, hcm⟩ : ∃ z, z = quC m := ⟨_, rfl⟩
  obtain ⟨cb, hcb⟩ : ∃ z, z = quC b := ⟨_, rfl⟩
  rw [← hcm, ← hcb]
  have HCM := Lib.hid hcm
  have HCB := Lib.hid hcb
  clear hcm hcb
  have hX0 : At3 74 (((w.alloc (.cells #[.int .i64 cm, .int .i64 cb, .slice xa l.length xc] 74)).alloc (.cells #[.int .i64 kd, .int .i64 N, .slice aL es.length cL] 79)).alloc (.cells #[.int .i64 0, .int .i64 0, .slice none 0 0] 74)) w.heap.size (.int .i64 cm) (.int .i64 cb) (.slice xa l.length xc) := ((at3_new 74 _ _ (.int .i64 cm) (.int .i64 cb) (.slice xa l.length xc) rfl).alloc _).alloc _
  have hX1 : At3 79 (((w.alloc (.cells #[.int .i64 cm, .int .i64 cb, .slice xa l.length xc] 74)).alloc (.cells #[.int .i64 kd, .int .i64 N, .slice aL es.length cL] 79)).alloc (.cells #[.int .i64 0, .int .i64 0, .slice none 0 0] 74)) (w.heap.size + 1) (.int .i64 kd) (.int .i64 N) (.slice aL es.length cL) := (at3_new 79 _ _ (.int .i64 kd) (.int .i64 N) (.slice aL es.length cL) (by simp)).alloc _
  have hX2 : At3 74 (((w.alloc (.cells #[.int .i64 cm, .int .i64 cb, .slice xa l.length xc] 74)).alloc (.cells #[.int .i64 kd, .int .i64 N, .slice aL es.length cL] 79)).alloc (.cells #[.int .i64 0, .int .i64 0, .slice none 0 0] 74)) (w.heap.size + 1 + 1) (.int .i64 0) (.int .i64 0) (.slice none 0 0) := at3_new 74 _ _ (.int .i64 0) (.int .i64 0) (.slice none 0 0) (by simp)
  have hb : Below w.heap.size w (((w.alloc (.cells #[.int .i64 cm, .int .i64 cb, .slice xa l.length xc] 74)).alloc (.cells #[.int .i64 kd, .int .i64 N, .slice aL es.length cL] 79)).alloc (.cells #[.int .i64 0, .int .i64 0, .slice none 0 0] 74)) := (((Below.refl _ _).alloc (Nat.le_refl _) _).alloc (by simp) _).alloc (by simp; omega) _
  go_enter Try.func36, Try.ntmps36
  go_upto_region 1 with fail
  generalize (((w.alloc (.cells #[.int .i64 cm, .int .i64 cb, .slice xa l.length xc] 74)).alloc (.cells #[.int .i64 kd, .int .i64 N, .slice aL es.length cL] 79)).alloc (.cells #[.int .i64 0, .int .i64 0, .slice none 0 0] 74)) = w2 at hX0 hX1 hX2 hb ⊢
  generalize hg2 : w.heap.size + 1 + 1 = g2 at hX2 ⊢
  generalize hg1 : w.heap.size + 1 = g1 at hX1 hg2 ⊢
  generalize hg0 : w.heap.size = g0 at hX0 hb hg1 ⊢
  have hne01 : g0 ≠ g1 := by omega
  have hne02 : g0 ≠ g2 := by omega
  have hle1 : g0 ≤ g1 := by omega
  have hne10 : g1 ≠ g0 := by omega
  have hne12 : g1 ≠ g2 := by omega
  have hle2 : g0 ≤ g2 := by omega
  have hne20 : g2 ≠ g0 := by omega
  have hne21 : g2 ≠ g1 := by omega
  have HG := Lib.hid hg0
  clear hg0 hg1 hg2
  obtain ⟨_, _, _⟩ := hX0.frees
  obtain ⟨_, _, _⟩ := hX0.cells
  obtain ⟨_, _, _⟩ := hX1.frees
  obtain ⟨_, _, _⟩ := hX1.cells
  obtain ⟨_, _, _⟩ := hX2.frees
  obtain ⟨_, _, _⟩ := hX2.cells
  have hbw : Below w.heap.size w w2 := by rw [HG.out]; exact hb
  have hQ2 := h.later hbw
  have hx2 := hx.later hbw
  have hr2 := hr.later hbw
  have hK2 := keptQ_below hbw
  have hg0 : base ≤ g0 := by rw [← HG.out]; exact hbz
  clear h hx hr hbw
  obtain ⟨i0, hi, hz0, hz1, hz2⟩ := info_parts info_qstr
  have hmf : ∀ (fn : Fn) (first cap : Array Value) (w : World), (Instr.makeFunc fn first cap).run Try.prog w = .ok (.func fn first cap) w := fun _ _ _ _ => rfl
  have HKt := Lib.hid (quKp_take N l)
  have HKl := Lib.hid (quKp_len N)
  have HXX := Lib.hid hx2
  have HA1 := Lib.hid hX1
  clear hr2
  go_upto_region 16 with fail
  go_wp2_with fail
  go_loopw [19, 79] (fun vk i wr => ∃ k : Nat, k ≤ l.length ∧ i = .int .i64 k ∧ OwnE wr w2.heap.size 9 1 vk (quKp N (l.take k)).length (quV (quKp N (l.take k))) ∧ Below w2.heap.size w2 wr) (fun _ i _ => l.length - (intOf i).toNat)
  case atStart => exact ⟨0, Nat.zero_le _, rfl, ownE_nil _ _ _ _, Below.refl _ _⟩
  case round =>
    obtain ⟨k, hk, rfl, hO, hbw⟩ := hrel
    by_cases hlt : k < l.length
    · obtain ⟨s, hs⟩ : ∃ s, l[k]? = some s := ⟨_, List.getElem?_eq_getElem hlt⟩
      obtain ⟨g, off, cap, e, hc1, hc2, hcl⟩ := (HXX.out.later hbw).texts (by omega)
      simp only [Value.slice.injEq, true_and] at e
      obtain ⟨rfl, rfl⟩ := e
      have hcell := hcl k s hs
      have HK1 := Lib.hid (HKt.out k s hs)
      have hkl : (quKp N (l.take k)).length ≤ k := Nat.le_trans (HKl.out _) (by rw [List.length_take]; omega)
      have hA9 := HA1.out.later hbw
      obtain ⟨_, hcN, _⟩ := hA9.cells
      clear hcl hs hA9
      by_cases hN : N ≤ (s.size : Int)
      · have HK2 : Hid (quKp N (l.take (k + 1)) = quKp N (l.take k) ++ [s]) := Lib.hid (by rw [HK1.out, if_pos hN])
        clear HK1
        have HKV : Hid (quV (quKp N (l.take (k + 1))) = quV (quKp N (l.take k)) ++ [.string s]) := Lib.hid (by rw [HK2.out, quV_app]; rfl)
        have HKN : Hid ((quKp N (l.take (k + 1))).length = (quKp N (l.take k)).length + 1) := Lib.hid (by rw [HK2.out, List.length_append]; rfl)
        generalize quV (quKp N (l.take k)) = xs at *
        generalize (quKp N (l.take k)).length = nk at *
        go_wp2_with (at_builtin; refine append_atE1 (W := w2) rfl (.tmp 88) (.tmp 90) 72 rfl 9 i0 (.string ByteArray.empty) 16 Try.underlying72 hi hz0 hz1 hz2 rfl w2.heap.size _ nk xs rfl hO (.string s) rfl rfl ?d1 ?d2 hbw.size w2.heap.size (Nat.le_refl _) hbw ?_)
        case d1 => unfold maxLen; omega
        case d2 => omega
        intro v4 w4 hO4 hb4 _ _
        rw [← HKV.out, ← HKN.out] at hO4
        clear hO hbw hcell hcN
        go_wp2_with fail
        go_roundw
        case rel => exact ⟨k + 1, by omega, by go_num, hO4, hb4⟩
        case measure => simp [intOf]; omega
      · have HK2 : Hid (quKp N (l.take (k + 1)) = quKp N (l.take k)) := Lib.hid (by rw [HK1.out, if_neg hN, List.append_nil])
        clear HK1
        go_wp2_with fail
        go_roundw
        case rel => exact ⟨k + 1, by omega, by go_num, by rw [HK2.out]; exact hO, hbw⟩
        case measure => simp [intOf]; omega
    · obtain rfl : k = l.length := by omega
      rw [List.take_length] at hO
      obtain ⟨a5, c5, rfl⟩ := hO.form
      have hX0_3 := hX0.later hbw
      have hX1_3 := hX1.later hbw
      have hX2_3 := hX2.later hbw
      have hQ3 := hQ2.later hbw
      have hb3 := hb.trans (hbw.mono (Nat.le_of_lt hX0.lt))
      have hK3 := hK2.trans (keptQ_below hbw)
      have hy3 := hO.base (Nat.zero_le _)
      have HFi := Lib.hid (quFilter_any hQ3 hX1_3)
      have hlen := HKl.out l
      clear hX0 hX1 hX2 hQ2 hb hK2 hbw hO hx2 HXX HA1 HKt HKl
      obtain ⟨kp, hkp⟩ : ∃ kp, kp = quKp N l := ⟨_, rfl⟩
      rw [← hkp] at HFi hy3 hlen
      rw [← hkp]
      clear hkp
      have hwd : IntKind.i64.wrap ((l.length : Int) - kp.length) = (l.length : Int) - kp.length := IntWalk.i64_in _ ⟨by omega, by omega⟩
      go_wp2_with fail
      refine HFi.out.mono ?_
      rintro e w5 ⟨rfl, ⟨v5, hQ5⟩, hk5, hK4⟩
      have hX0_5 := hX0_3.keptQ hK4 (by decide) (by decide)
      have hX2_5 := hX2_3.keptQ hK4 (by decide) (by decide)
      have hy5 := hy3.keptQ hK4 (by decide) (by decide)
      have hb5 := (hb3.mono hg0).trans hk5
      have hK5 := hK3.trans hK4
      clear hX0_3 hX1_3 hX2_3 hQ3 hb3 hK3 hy3 HFi hk5 hK4
      obtain ⟨_, _, _⟩ := hX0_5.cells
      obtain ⟨_, _, _⟩ := hX0_5.frees
      go_upto_region 26 with fail
      have ho6 := (Only.refl g0 w5).setCell 2 (.slice a5 kp.length c5)
      have hX0_6 := at3_set2 hX0_5 (.slice a5 kp.length c5)
      have hX2_6 := hX2_5.only hne20 ho6
      have hQ6 := hQ5.onlyG hX0_5 ho6 (by decide) (by decide)
      have hy6 := hy5.onlyG (x := hX0_5) ho6 (by decide)
      have hb6 := hb5.trans (ho6.below hg0)
      have hK6 := keptQ_onlyG (T := 74) (c0 := .int .i64 0) (c1 := .int .i64 0) (c2 := .int .i64 0) g0 (Nat.le_refl _) (.inr trivial) ho6 w hK5 (by rw [HG.out]; exact Nat.le_refl _)
      generalize w5.setCell ⟨g0, 2, none⟩ (.slice a5 kp.length c5) = w7 at hX0_6 hX2_6 hQ6 hy6 hb6 hK6 ⊢
      clear ho6 hX0_5 hX2_5 hQ5 hy5 hb5 hK5
      obtain ⟨_, _, _⟩ := hX0_6.cells
      obtain ⟨_, _, _⟩ := hX2_6.frees
      obtain ⟨_, _, _⟩ := hX2_6.cells
      have ho8 := store3_only w7 g2 (.int .i64 cm) (.int .i64 cb) (.slice a5 kp.length c5)
      have hZ := at3_store hX2_6 (.int .i64 cm) (.int .i64 cb) (.slice a5 kp.length c5)
      have hQ8 := hQ6.onlyG hX2_6 ho8 (by decide) (by decide)
      have hy8 := hy6.onlyG (x := hX2_6) ho8 (by decide)
      have hb8 := hb6.trans (ho8.below (Nat.le_trans hg0 hle2))
      have hK8 := keptQ_onlyG (T := 74) (c0 := .int .i64 0) (c1 := .int .i64 0) (c2 := .int .i64 0) g0 hle2 (.inr trivial) ho8 w hK6 (by rw [HG.out]; exact hle2)
      obtain ⟨d0, d1, d2⟩ := hZ.cells
      go_wp2_with fail
      refine bodyPost_ret (v := .tuple #[.agg #[.int .i64 cm, .int .i64 cb, .slice a5 kp.length c5], .bool true]) (by simp [results, Try.results36, go_sem, d0, d1, d2]) rfl ⟨kp, _, _, rfl, hQ8, hy8, hb8, hK8⟩
theorem quDo_any {w : World} {base gq : Nat} {m b : Int} {v vx : Value} {l : List ByteArray} (h : QIn w base gq m b v l) (hx : OwnE w 0 9 1 vx l.length (quV l)) (kd N : Int) (es : List ByteArray) (aL : Option Addr) (cL : Nat) (hr : ReadsT w aL es) (hel : es.length ≤ 9223372036854775807) (hes : ∀ s ∈ es, s.size ≤ 9223372036854775807) :
    Calls Try.prog 36 #[.pointer (some ⟨gq, 0, none⟩), .agg #[.int .i64 (quC m), .int .i64 (quC b), vx], .agg #[.int .i64 kd, .int .i64 N, .slice aL es.length cL]] w fun e w' => ∃ l' v' vx', e = .returned (.tuple #[.agg #[.int .i64 (quC m), .int .i64 (quC b), vx'], .bool true]) ∧ QIn w' base gq m b v' l' ∧ OwnE w' 0 9 1 vx' l'.length (quV l') ∧ Below base w w' ∧ KeptQ w w' := by
  by_cases hk0 : kd = 0
  · exact quDo0 h hx kd N es aL cL hr hel hes hk0
  by_cases hk1 : kd = 1
  · cases l with
    | nil => exact quDo1a h hx kd N es aL cL hr hel hes hk1
    | cons s r => exact quDo1b h hx kd N es aL cL hr hel hes hk1
  exact quDo2 h hx kd N es aL cL hr hel hes hk0 hk1
end Go.Proofs.Ytgmggilnhkdceaa
