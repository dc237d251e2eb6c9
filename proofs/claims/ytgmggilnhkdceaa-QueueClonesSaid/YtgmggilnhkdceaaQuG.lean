/- queue: append of any slice of texts; the document's New, Bytes, Push, Pop. -/
import Derived.Test.YtgmggilnhkdceaaQuF
import Derived.Deep.Upon
import Derived.Lib.AppendZeros
namespace Go.Proofs.Ytgmggilnhkdceaa
open Go.RowKit
set_option linter.unusedVariables false
set_option linter.unusedSimpArgs false
/-- 'append' of a slice, nil or not. -/
theorem append_any {P : Program} (w : World) {ops : Array Oper} {rest : List Oper} {o : Oper} {a : Act} {Q : Exit → Act → World → Prop}
    (hg : o.guard = none) (s x : Operand) (t : TypeId) (hop : o.op = Op.call { callee := Callee.builtin Builtin.append, args := #[s, x], argTypes := #[t, t] })
    (e : TypeId) (i : TypeInfo) (z : Value) (bytes : Nat) (h1 : P.underlying t = some (.slice e)) (h2 : P.info? e = some i) (h3 : i.zero = some z) (h4 : i.size = 1) (h5 : i.bytes = bytes) (h6 : z.cells.size = 1)
    (base : Nat) (v : Value) (n : Nat) (xs : List Value) (hs : a.eval s = v) (hown : OwnE w base e 1 v n xs)
    (xa : Option Addr) (m c : Nat) (news : List Value) (hx : a.eval x = .slice xa m c) (hn : news.length = m) (hnone : xa = none → m = 0 ∧ c = 0) (hc : ∀ ad, xa = some ad → ∀ j u, news[j]? = some u → w.cell? (ad.add j) = some u) (h1c : ∀ u ∈ news, u.oneCell' = true)
    (b1 : n + m ≤ maxLen) (b2 : (n + m) * bytes ≤ 140737488355328) (hbase : base ≤ w.heap.size)
    (hK : ∀ v' w', OwnE w' base e 1 v' (n + m) (xs ++ news) → w.grownBy w' v.ownBlock → (v'.ownBlock = v.ownBlock ∨ ∃ k, v'.ownBlock = some k ∧ w.heap.size ≤ k) → wpList P ops Q rest (a.put o.dst v') w') :
    wpList P ops Q (o :: rest) a w := by
  cases xa with
  | some ad => exact append_atE w hg s x t hop e i z 1 bytes h1 h2 h3 h4 h5 h6 (by decide) base v n xs hs hown ad m c news hx (by rw [hn, Nat.mul_one]) (hc ad rfl) h1c b1 b2 hbase hK
  | none =>
    obtain ⟨rfl, rfl⟩ := hnone rfl
    obtain rfl : news = [] := List.eq_nil_of_length_eq_zero hn
    have hle : ∃ a' c', v = .slice a' n c' ∧ n ≤ c' := by
      rcases hown.1.2 with ⟨rfl, rfl⟩ | ⟨g, off, cap, rfl, _, _, q, _⟩
      · exact ⟨_, _, rfl, Nat.le_refl _⟩
      · exact ⟨_, _, rfl, q⟩
    obtain ⟨a', c', rfl, hle⟩ := hle
    refine Lib.wpList_append_run w hg s x t t hop _ _ hs hx _ w (run_append_nothing w t t o.type e i h1 h2 a' n c' hle _ ?_) (hK _ _ (by simpa using hown) ⟨rfl, rfl, rfl, Nat.le_refl _, fun _ _ _ => rfl⟩ (.inl rfl))
    exact Src.ofNil w h1 0
-- REFS
/-- A row of texts as what is appended. -/
theorem OwnE.src {W : World} {b n : Nat} {e : TypeId} {v : Value} {l : List ByteArray} (h : OwnE W b e 1 v n (quV l)) : ∃ xa c, v = .slice xa n c ∧ (xa = none → n = 0 ∧ c = 0) ∧ (∀ ad, xa = some ad → ∀ j u, (quV l)[j]? = some u → W.cell? (ad.add j) = some u) ∧ l.length = n := by
  have hl : l.length = n := by have := h.1.1; rw [quV_len, Nat.mul_one] at this; exact this
  rcases h.1.2 with ⟨rfl, e⟩ | ⟨g, off, cap, rfl, _, _, _, _, _, hc⟩
  · exact ⟨none, 0, by rw [e], fun _ => ⟨e, rfl⟩, fun ad h => (by cases h), hl⟩
  · refine ⟨_, _, rfl, fun h => (by cases h), fun ad had j u hu => ?_, hl⟩
    cases had
    rw [Addr.add_lit]
    exact hc j u hu
theorem quV_one (l : List ByteArray) : ∀ u ∈ quV l, u.oneCell' = true := by
  intro u hu
  unfold quV at hu
  obtain ⟨s, _, rfl⟩ := List.mem_map.1 hu
  rfl
/-- A store into a block of three cells of another type. -/
theorem OwnE.onlyG {W W' : World} {b : Nat} {e T : TypeId} {size g : Nat} {v : Value} {n : Nat} {xs : List Value} {c0 c1 c2 : Value} (h : OwnE W b e size v n xs) {x : At3 T W g c0 c1 c2} (ho : Only g W W') (hT : e ≠ T) : OwnE W' b e size v n xs :=
  h.keep (by rw [ho.size]; exact Nat.le_refl _) fun k cs _ hc => ho.block k (fun e' => by
    subst e'
    unfold At3 at x
    rw [x] at hc
    simp only [Option.some.injEq, Obj.cells.injEq] at hc
    exact hT hc.2.1.symm)
theorem info_qstr : (Try.prog.info? 9).map (fun i => (i.zero, i.size, i.bytes)) = some (some (.string ByteArray.empty), 1, 16) := by kernel_rfl
theorem quC_alt (n : Int) : max 1 (min n 1073741824) = quC n := by unfold quC; omega
set_option maxHeartbeats 1600000 in
theorem refQBytes_q {w : World} {b : Nat} {e : TypeId} {v : Value} {n : Nat} {l : List ByteArray} (h : OwnE w b e 1 v n (quV l)) (hn : n ≤ 2147483648) (hb : quTot l ≤ 4611686018427387904) : Calls Try.prog 68 #[v] w fun e w' => e = .returned (.int .i64 (quTot l)) ∧ w' = w := by
  have HTk := Lib.hid (quTot_take l)
  have HN : Hid (∀ k, 0 ≤ quTot (l.take k)) := Lib.hid (fun k => quTot_nn _)
  have HO := Lib.hid h
  obtain ⟨xa, c, rfl, _, _, hl⟩ := h.src
  have HZ : Hid (quTot (l.take l.length) = quTot l ∧ quTot (l.take 0) = 0) := Lib.hid ⟨by rw [List.take_length], by simp [quTot]⟩
  subst hl
  clear h
  generalize quTot l = T at *
  go_enter Try.func68, Try.ntmps68
  go_wp2
  go_loop [3, 8] (fun t i => ∃ k : Nat, k ≤ l.length ∧ i = .int .i64 k ∧ t = .int .i64 (quTot (l.take k))) (fun _ i => l.length - (intOf i).toNat)
  case atStart => exact ⟨0, Nat.zero_le _, rfl, by rw [HZ.out.2]⟩
  case round =>
    obtain ⟨k, hk, rfl, rfl⟩ := hrel
    by_cases hlt : k < l.length
    · obtain ⟨s, hs⟩ : ∃ s, l[k]? = some s := ⟨_, List.getElem?_eq_getElem hlt⟩
      obtain ⟨g, off, cap, e, hc1, hc2, hcl⟩ := HO.out.texts (by omega)
      simp only [Value.slice.injEq, true_and] at e
      obtain ⟨rfl, rfl⟩ := e
      have hcell := hcl k s hs
      obtain ⟨t1, t2⟩ := HTk.out k s hs
      have t3 := HN.out k
      have HT1 : Hid (quTot (l.take (k + 1)) = quTot (l.take k) + s.size) := Lib.hid t1
      generalize quTot (l.take k) = tk at *
      have hwk : IntKind.i64.wrap (tk + s.size) = tk + s.size := IntWalk.i64_in _ ⟨by omega, by omega⟩
      clear hs t1 t2 t3 hcl
      go_wp2
      go_round
      case rel => exact ⟨k + 1, by omega, by go_num, by rw [HT1.out]⟩
      case measure => simp [intOf]; omega
    · obtain rfl : k = l.length := by omega
      rw [HZ.out.1]
      go_wp2
      go_ret
      exact ⟨rfl, rfl⟩
theorem refQNew_any (m b : Int) (w : World) : Calls Try.prog 35 #[.int .i64 m, .int .i64 b] w fun e w' => e = .returned (.agg #[.int .i64 (quC m), .int .i64 (quC b), .slice none 0 0]) ∧ Below w.heap.size w w' := by
  rw [← quC_alt m, ← quC_alt b]
  have hX0 : At3 74 (w.alloc (.cells #[.int .i64 0, .int .i64 0, .slice none 0 0] 74)) w.heap.size (.int .i64 0) (.int .i64 0) (.slice none 0 0) := at3_new 74 _ _ (.int .i64 0) (.int .i64 0) (.slice none 0 0) rfl
  have hb : Below w.heap.size w (w.alloc (.cells #[.int .i64 0, .int .i64 0, .slice none 0 0] 74)) := (Below.refl _ _).alloc (Nat.le_refl _) _
  go_enter Try.func35, Try.ntmps35
  go_upto_region 1 with fail
  generalize (w.alloc (.cells #[.int .i64 0, .int .i64 0, .slice none 0 0] 74)) = w2 at hX0 hb ⊢
  generalize hg0 : w.heap.size = g0 at hX0 hb ⊢
  have HG := Lib.hid hg0
  clear hg0
  obtain ⟨_, _, _⟩ := hX0.frees
  obtain ⟨_, _, _⟩ := hX0.cells
  have hZ := at3_store hX0 (.int .i64 (max 1 (min m 1073741824))) (.int .i64 (max 1 (min b 1073741824))) (.slice none 0 0)
  have hbz := hb.trans ((store3_only w2 g0 (.int .i64 (max 1 (min m 1073741824))) (.int .i64 (max 1 (min b 1073741824))) (.slice none 0 0)).below (Nat.le_refl _))
  obtain ⟨d0, d1, d2⟩ := hZ.cells
  go_wp2_with fail
  refine bodyPost_ret (v := .agg #[.int .i64 (max 1 (min m 1073741824)), .int .i64 (max 1 (min b 1073741824)), .slice none 0 0]) (by simp [results, Try.results35, go_sem, d0, d1, d2]) rfl ⟨rfl, by rw [HG.out]; exact hbz⟩
set_option maxRecDepth 100000 in
set_option maxHeartbeats 3200000 in
theorem refQPushMany {w : World} {vl vz : Value} {l zs : List ByteArray} (M B : Int) (hL : OwnE w 0 9 1 vl l.length (quV l)) (hZ : OwnE w 0 9 1 vz zs.length (quV zs)) (hl1 : l.length ≤ 1073741824) (hl2 : zs.length ≤ 1073741824) (ht1 : quTot l ≤ 1073741824) (ht2 : quTot zs ≤ 1073741824) (h0 : M < (l.length : Int) + zs.length) :
    Calls Try.prog 62 #[.agg #[.int .i64 M, .int .i64 B, vl], vz] w fun e w' => e = .returned (.tuple #[.agg #[.int .i64 M, .int .i64 B, vl], .bool false]) ∧ Below w.heap.size w w' := by
  obtain ⟨i0, hi, hz0, hz1, hz2⟩ := info_parts info_qstr
  have HT : Hid (quTot (l ++ zs) = quTot l + quTot zs) := Lib.hid (quTot_app l zs)
  have HVA : Hid (quV (l ++ zs) = quV l ++ quV zs) := Lib.hid (quV_app l zs)
  obtain ⟨xa, xc, rfl, _⟩ := hL.src
  obtain ⟨ya, yc, rfl, _⟩ := hZ.src
  have hX0 : At3 74 ((w.alloc (.cells #[.int .i64 M, .int .i64 B, .slice xa l.length xc] 74)).alloc (.cells #[.int .i64 0, .int .i64 0, .slice none 0 0] 74)) w.heap.size (.int .i64 M) (.int .i64 B) (.slice xa l.length xc) := (at3_new 74 _ _ (.int .i64 M) (.int .i64 B) (.slice xa l.length xc) rfl).alloc _
  have hX1 : At3 74 ((w.alloc (.cells #[.int .i64 M, .int .i64 B, .slice xa l.length xc] 74)).alloc (.cells #[.int .i64 0, .int .i64 0, .slice none 0 0] 74)) (w.heap.size + 1) (.int .i64 0) (.int .i64 0) (.slice none 0 0) := at3_new 74 _ _ (.int .i64 0) (.int .i64 0) (.slice none 0 0) (by simp)
  have hb : Below w.heap.size w ((w.alloc (.cells #[.int .i64 M, .int .i64 B, .slice xa l.length xc] 74)).alloc (.cells #[.int .i64 0, .int .i64 0, .slice none 0 0] 74)) := ((Below.refl _ _).alloc (Nat.le_refl _) _).alloc (by simp) _
  go_enter Try.func62, Try.ntmps62
  go_upto_region 1 with fail
  generalize ((w.alloc (.cells #[.int .i64 M, .int .i64 B, .slice xa l.length xc] 74)).alloc (.cells #[.int .i64 0, .int .i64 0, .slice none 0 0] 74)) = w2 at hX0 hX1 hb ⊢
  generalize hg1 : w.heap.size + 1 = g1 at hX1 ⊢
  generalize hg0 : w.heap.size = g0 at hX0 hb hg1 ⊢
  have hne01 : g0 ≠ g1 := by omega
  have hle1 : g0 ≤ g1 := by omega
  have hne10 : g1 ≠ g0 := by omega
  have HG := Lib.hid hg0
  clear hg0 hg1
  obtain ⟨_, _, _⟩ := hX0.frees
  obtain ⟨_, _, _⟩ := hX0.cells
  obtain ⟨_, _, _⟩ := hX1.frees
  obtain ⟨_, _, _⟩ := hX1.cells
  have hL2 := hL.later (show Below w.heap.size w w2 by rw [HG.out]; exact hb)
  have hZ2 := hZ.later (show Below w.heap.size w w2 by rw [HG.out]; exact hb)
  clear hL hZ
  have hlt2 := hX0.lt
  have hal : Below w2.heap.size w2 (w2.alloc (.cells #[] 9)) := (Below.refl _ _).alloc (Nat.le_refl _) _
  have hE : OwnE (w2.alloc (.cells #[] 9)) w2.heap.size 9 1 (.slice (some ⟨w2.heap.size, 0, none⟩) 0 0) 0 [] := ownE_of (World.ownsRow_lit w2 #[] 0 (Nat.le_refl _) (Nat.zero_le _) rfl)
  have hL3 := hL2.later hal
  obtain ⟨xa', xc', e3, hn3, hc3, _⟩ := hL3.src
  cases e3
  have HC3 := Lib.hid hc3
  have H13 := Lib.hid (quV_one l)
  have HL3 := Lib.hid (quV_len l)
  have HN3 := Lib.hid hn3
  clear hc3 hn3
  go_wp2_with (at_builtin; refine append_any _ rfl (.tmp 7) (.tmp 9) 72 rfl 9 i0 (.string ByteArray.empty) 16 Try.underlying72 hi hz0 hz1 hz2 rfl w2.heap.size _ 0 [] rfl hE xa l.length xc (quV l) rfl HL3.out HN3.out HC3.out H13.out ?m1 ?m2 (by simp) ?_)
  case m1 => unfold maxLen; omega
  case m2 => omega
  intro v3 w3 hO3 hg3 _
  have hk3 : Below w2.heap.size w2 w3 := hal.grown hg3 (by simp) (fun k hk => by cases hk; exact Nat.le_refl _)
  have hZ3 := hZ2.later hk3
  obtain ⟨ya', yc', e4, hn4, hc4, _⟩ := hZ3.src
  cases e4
  have HC4 := Lib.hid hc4
  have H14 := Lib.hid (quV_one zs)
  have HL4 := Lib.hid (quV_len zs)
  have HN4 := Lib.hid hn4
  have hsz3 := hk3.size
  clear hc4 hn4 hg3 hE hL3 hal HC3 HN3
  go_wp2_with (at_builtin; refine append_any _ rfl (.tmp 10) (.tmp 11) 72 rfl 9 i0 (.string ByteArray.empty) 16 Try.underlying72 hi hz0 hz1 hz2 rfl w2.heap.size _ l.length (quV l) rfl hO3 ya zs.length yc (quV zs) rfl HL4.out HN4.out HC4.out H14.out ?m3 ?m4 hsz3 ?_)
  case m3 => unfold maxLen; omega
  case m4 => omega
  intro v4 w4 hO4 hg4 _
  have hk4 : Below w2.heap.size w2 w4 := hk3.grown hg4 hsz3 (fun k hk => (hO3.1.lt k hk).1)
  rw [← HVA.out] at hO4
  obtain ⟨a4, c4, rfl⟩ := hO4.form
  have hX0_4 := hX0.later hk4
  have hX1_4 := hX1.later hk4
  have hb4 := hb.trans (hk4.mono (Nat.le_of_lt hlt2))
  have hO5 := hO4.base (Nat.zero_le _)
  have HBy := Lib.hid (refQBytes_q hO4.drew (by omega) (by rw [HT.out]; omega))
  rw [HT.out] at HBy
  clear hX0 hX1 hb hk3 hk4 hg4 hO3 hO4 hZ3 hZ2 hL2 HC4 HN4 H13 H14 HL3 HL4 hsz3 hlt2
  obtain ⟨_, _, _⟩ := hX0_4.cells
  obtain ⟨_, _, _⟩ := hX0_4.frees
  obtain ⟨_, _, _⟩ := hX1_4.cells
  obtain ⟨_, _, _⟩ := hX1_4.frees
  generalize hTL : quTot l + quTot zs = T at *
  go_upto_region 2 with fail
  first | go_region_law (fail) | fail "region"
  all_goals
    go_upto_region 3 with fail
    have hX0_5 := hX0_4.drew
    have hX1_5 := hX1_4.drew
    have hb5 := hb4.drew
    have hO6 := hO5.drew
    generalize w4.drew = w5 at hX0_5 hX1_5 hb5 hO6 ⊢
    obtain ⟨_, _, _⟩ := hX0_5.frees
    obtain ⟨_, _, _⟩ := hX0_5.cells
    obtain ⟨_, _, _⟩ := hX1_5.frees
    obtain ⟨_, _, _⟩ := hX1_5.cells
    have hZ := at3_store hX1_5 (.int .i64 M) (.int .i64 B) (.slice xa l.length xc)
    have hbz := hb5.trans ((store3_only w5 g1 (.int .i64 M) (.int .i64 B) (.slice xa l.length xc)).below hle1)
    obtain ⟨d0, d1, d2⟩ := hZ.cells
    go_wp2_with fail
    refine bodyPost_ret (v := .tuple #[.agg #[.int .i64 M, .int .i64 B, .slice xa l.length xc], .bool false]) (by simp [results, Try.results62, go_sem, d0, d1, d2]) rfl ⟨rfl, by rw [HG.out]; exact hbz⟩
set_option maxRecDepth 100000 in
set_option maxHeartbeats 3200000 in
theorem refQPushMuch {w : World} {vl vz : Value} {l zs : List ByteArray} (M B : Int) (hL : OwnE w 0 9 1 vl l.length (quV l)) (hZ : OwnE w 0 9 1 vz zs.length (quV zs)) (hl1 : l.length ≤ 1073741824) (hl2 : zs.length ≤ 1073741824) (ht1 : quTot l ≤ 1073741824) (ht2 : quTot zs ≤ 1073741824) (h0 : (l.length : Int) + zs.length ≤ M) (h1 : B < quTot l + quTot zs) :
    Calls Try.prog 62 #[.agg #[.int .i64 M, .int .i64 B, vl], vz] w fun e w' => e = .returned (.tuple #[.agg #[.int .i64 M, .int .i64 B, vl], .bool false]) ∧ Below w.heap.size w w' := by
  obtain ⟨i0, hi, hz0, hz1, hz2⟩ := info_parts info_qstr
  have HT : Hid (quTot (l ++ zs) = quTot l + quTot zs) := Lib.hid (quTot_app l zs)
  have HVA : Hid (quV (l ++ zs) = quV l ++ quV zs) := Lib.hid (quV_app l zs)
  obtain ⟨xa, xc, rfl, _⟩ := hL.src
  obtain ⟨ya, yc, rfl, _⟩ := hZ.src
  have hX0 : At3 74 ((w.alloc (.cells #[.int .i64 M, .int .i64 B, .slice xa l.length xc] 74)).alloc (.cells #[.int .i64 0, .int .i64 0, .slice none 0 0] 74)) w.heap.size (.int .i64 M) (.int .i64 B) (.slice xa l.length xc) := (at3_new 74 _ _ (.int .i64 M) (.int .i64 B) (.slice xa l.length xc) rfl).alloc _
  have hX1 : At3 74 ((w.alloc (.cells #[.int .i64 M, .int .i64 B, .slice xa l.length xc] 74)).alloc (.cells #[.int .i64 0, .int .i64 0, .slice none 0 0] 74)) (w.heap.size + 1) (.int .i64 0) (.int .i64 0) (.slice none 0 0) := at3_new 74 _ _ (.int .i64 0) (.int .i64 0) (.slice none 0 0) (by simp)
  have hb : Below w.heap.size w ((w.alloc (.cells #[.int .i64 M, .int .i64 B, .slice xa l.length xc] 74)).alloc (.cells #[.int .i64 0, .int .i64 0, .slice none 0 0] 74)) := ((Below.refl _ _).alloc (Nat.le_refl _) _).alloc (by simp) _
  go_enter Try.func62, Try.ntmps62
  go_upto_region 1 with fail
  generalize ((w.alloc (.cells #[.int .i64 M, .int .i64 B, .slice xa l.length xc] 74)).alloc (.cells #[.int .i64 0, .int .i64 0, .slice none 0 0] 74)) = w2 at hX0 hX1 hb ⊢
  generalize hg1 : w.heap.size + 1 = g1 at hX1 ⊢
  generalize hg0 : w.heap.size = g0 at hX0 hb hg1 ⊢
  have hne01 : g0 ≠ g1 := by omega
  have hle1 : g0 ≤ g1 := by omega
  have hne10 : g1 ≠ g0 := by omega
  have HG := Lib.hid hg0
  clear hg0 hg1
  obtain ⟨_, _, _⟩ := hX0.frees
  obtain ⟨_, _, _⟩ := hX0.cells
  obtain ⟨_, _, _⟩ := hX1.frees
  obtain ⟨_, _, _⟩ := hX1.cells
  have hL2 := hL.later (show Below w.heap.size w w2 by rw [HG.out]; exact hb)
  have hZ2 := hZ.later (show Below w.heap.size w w2 by rw [HG.out]; exact hb)
  clear hL hZ
  have hlt2 := hX0.lt
  have hal : Below w2.heap.size w2 (w2.alloc (.cells #[] 9)) := (Below.refl _ _).alloc (Nat.le_refl _) _
  have hE : OwnE (w2.alloc (.cells #[] 9)) w2.heap.size 9 1 (.slice (some ⟨w2.heap.size, 0, none⟩) 0 0) 0 [] := ownE_of (World.ownsRow_lit w2 #[] 0 (Nat.le_refl _) (Nat.zero_le _) rfl)
  have hL3 := hL2.later hal
  obtain ⟨xa', xc', e3, hn3, hc3, _⟩ := hL3.src
  cases e3
  have HC3 := Lib.hid hc3
  have H13 := Lib.hid (quV_one l)
  have HL3 := Lib.hid (quV_len l)
  have HN3 := Lib.hid hn3
  clear hc3 hn3
  go_wp2_with (at_builtin; refine append_any _ rfl (.tmp 7) (.tmp 9) 72 rfl 9 i0 (.string ByteArray.empty) 16 Try.underlying72 hi hz0 hz1 hz2 rfl w2.heap.size _ 0 [] rfl hE xa l.length xc (quV l) rfl HL3.out HN3.out HC3.out H13.out ?m1 ?m2 (by simp) ?_)
  case m1 => unfold maxLen; omega
  case m2 => omega
  intro v3 w3 hO3 hg3 _
  have hk3 : Below w2.heap.size w2 w3 := hal.grown hg3 (by simp) (fun k hk => by cases hk; exact Nat.le_refl _)
  have hZ3 := hZ2.later hk3
  obtain ⟨ya', yc', e4, hn4, hc4, _⟩ := hZ3.src
  cases e4
  have HC4 := Lib.hid hc4
  have H14 := Lib.hid (quV_one zs)
  have HL4 := Lib.hid (quV_len zs)
  have HN4 := Lib.hid hn4
  have hsz3 := hk3.size
  clear hc4 hn4 hg3 hE hL3 hal HC3 HN3
  go_wp2_with (at_builtin; refine append_any _ rfl (.tmp 10) (.tmp 11) 72 rfl 9 i0 (.string ByteArray.empty) 16 Try.underlying72 hi hz0 hz1 hz2 rfl w2.heap.size _ l.length (quV l) rfl hO3 ya zs.length yc (quV zs) rfl HL4.out HN4.out HC4.out H14.out ?m3 ?m4 hsz3 ?_)
  case m3 => unfold maxLen; omega
  case m4 => omega
  intro v4 w4 hO4 hg4 _
  have hk4 : Below w2.heap.size w2 w4 := hk3.grown hg4 hsz3 (fun k hk => (hO3.1.lt k hk).1)
  rw [← HVA.out] at hO4
  obtain ⟨a4, c4, rfl⟩ := hO4.form
  have hX0_4 := hX0.later hk4
  have hX1_4 := hX1.later hk4
  have hb4 := hb.trans (hk4.mono (Nat.le_of_lt hlt2))
  have hO5 := hO4.base (Nat.zero_le _)
  have HBy := Lib.hid (refQBytes_q hO4.drew (by omega) (by rw [HT.out]; omega))
  rw [HT.out] at HBy
  clear hX0 hX1 hb hk3 hk4 hg4 hO3 hO4 hZ3 hZ2 hL2 HC4 HN4 H13 H14 HL3 HL4 hsz3 hlt2
  obtain ⟨_, _, _⟩ := hX0_4.cells
  obtain ⟨_, _, _⟩ := hX0_4.frees
  obtain ⟨_, _, _⟩ := hX1_4.cells
  obtain ⟨_, _, _⟩ := hX1_4.frees
  generalize hTL : quTot l + quTot zs = T at *
  have hd1 : decide (M < (l.length : Int) + zs.length) = false := by simp; omega
  have hd2 : decide (B < T) = true := by simp; omega
  go_upto_region 2 with fail
  go_region_held3 (fun W => W.cell? ⟨g0, 0, none⟩ = some (.int .i64 M) ∧ W.cell? ⟨g0, 1, none⟩ = some (.int .i64 B)) (first | (go_keep; done) | exact ⟨hX0_4.cells.1, hX0_4.cells.2.1⟩) (first | (go_at_call 68; refine HBy.out.mono ?_; rintro e w' ⟨rfl, rfl⟩))
  all_goals
    go_upto_region 3 with fail
    have hX0_5 := hX0_4.drew
    have hX1_5 := hX1_4.drew
    have hb5 := hb4.drew
    have hO6 := hO5.drew
    generalize w4.drew = w5 at hX0_5 hX1_5 hb5 hO6 ⊢
    obtain ⟨_, _, _⟩ := hX0_5.frees
    obtain ⟨_, _, _⟩ := hX0_5.cells
    obtain ⟨_, _, _⟩ := hX1_5.frees
    obtain ⟨_, _, _⟩ := hX1_5.cells
    have hZ := at3_store hX1_5 (.int .i64 M) (.int .i64 B) (.slice xa l.length xc)
    have hbz := hb5.trans ((store3_only w5 g1 (.int .i64 M) (.int .i64 B) (.slice xa l.length xc)).below hle1)
    obtain ⟨d0, d1, d2⟩ := hZ.cells
    go_wp2_with fail
    refine bodyPost_ret (v := .tuple #[.agg #[.int .i64 M, .int .i64 B, .slice xa l.length xc], .bool false]) (by simp [results, Try.results62, go_sem, d0, d1, d2]) rfl ⟨rfl, by rw [HG.out]; exact hbz⟩
set_option maxRecDepth 100000 in
set_option maxHeartbeats 3200000 in
theorem refQPushYes {w : World} {vl vz : Value} {l zs : List ByteArray} (M B : Int) (hL : OwnE w 0 9 1 vl l.length (quV l)) (hZ : OwnE w 0 9 1 vz zs.length (quV zs)) (hl1 : l.length ≤ 1073741824) (hl2 : zs.length ≤ 1073741824) (ht1 : quTot l ≤ 1073741824) (ht2 : quTot zs ≤ 1073741824) (h0 : (l.length : Int) + zs.length ≤ M) (h1 : quTot l + quTot zs ≤ B) :
    Calls Try.prog 62 #[.agg #[.int .i64 M, .int .i64 B, vl], vz] w fun e w' => ∃ v', e = .returned (.tuple #[.agg #[.int .i64 M, .int .i64 B, v'], .bool true]) ∧ OwnE w' 0 9 1 v' (l.length + zs.length) (quV (l ++ zs)) ∧ Below w.heap.size w w' := by
  obtain ⟨i0, hi, hz0, hz1, hz2⟩ := info_parts info_qstr
  have HT : Hid (quTot (l ++ zs) = quTot l + quTot zs) := Lib.hid (quTot_app l zs)
  have HVA : Hid (quV (l ++ zs) = quV l ++ quV zs) := Lib.hid (quV_app l zs)
  obtain ⟨xa, xc, rfl, _⟩ := hL.src
  obtain ⟨ya, yc, rfl, _⟩ := hZ.src
  have hX0 : At3 74 ((w.alloc (.cells #[.int .i64 M, .int .i64 B, .slice xa l.length xc] 74)).alloc (.cells #[.int .i64 0, .int .i64 0, .slice none 0 0] 74)) w.heap.size (.int .i64 M) (.int .i64 B) (.slice xa l.length xc) := (at3_new 74 _ _ (.int .i64 M) (.int .i64 B) (.slice xa l.length xc) rfl).alloc _
  have hX1 : At3 74 ((w.alloc (.cells #[.int .i64 M, .int .i64 B, .slice xa l.length xc] 74)).alloc (.cells #[.int .i64 0, .int .i64 0, .slice none 0 0] 74)) (w.heap.size + 1) (.int .i64 0) (.int .i64 0) (.slice none 0 0) := at3_new 74 _ _ (.int .i64 0) (.int .i64 0) (.slice none 0 0) (by simp)
  have hb : Below w.heap.size w ((w.alloc (.cells #[.int .i64 M, .int .i64 B, .slice xa l.length xc] 74)).alloc (.cells #[.int .i64 0, .int .i64 0, .slice none 0 0] 74)) := ((Below.refl _ _).alloc (Nat.le_refl _) _).alloc (by simp) _
  go_enter Try.func62, Try.ntmps62
  go_upto_region 1 with fail
  generalize ((w.alloc (.cells #[.int .i64 M, .int .i64 B, .slice xa l.length xc] 74)).alloc (.cells #[.int .i64 0, .int .i64 0, .slice none 0 0] 74)) = w2 at hX0 hX1 hb ⊢
  generalize hg1 : w.heap.size + 1 = g1 at hX1 ⊢
  generalize hg0 : w.heap.size = g0 at hX0 hb hg1 ⊢
  have hne01 : g0 ≠ g1 := by omega
  have hle1 : g0 ≤ g1 := by omega
  have hne10 : g1 ≠ g0 := by omega
  have HG := Lib.hid hg0
  clear hg0 hg1
  obtain ⟨_, _, _⟩ := hX0.frees
  obtain ⟨_, _, _⟩ := hX0.cells
  obtain ⟨_, _, _⟩ := hX1.frees
  obtain ⟨_, _, _⟩ := hX1.cells
  have hL2 := hL.later (show Below w.heap.size w w2 by rw [HG.out]; exact hb)
  have hZ2 := hZ.later (show Below w.heap.size w w2 by rw [HG.out]; exact hb)
  clear hL hZ
  have hlt2 := hX0.lt
  have hal : Below w2.heap.size w2 (w2.alloc (.cells #[] 9)) := (Below.refl _ _).alloc (Nat.le_refl _) _
  have hE : OwnE (w2.alloc (.cells #[] 9)) w2.heap.size 9 1 (.slice (some ⟨w2.heap.size, 0, none⟩) 0 0) 0 [] := ownE_of (World.ownsRow_lit w2 #[] 0 (Nat.le_refl _) (Nat.zero_le _) rfl)
  have hL3 := hL2.later hal
  obtain ⟨xa', xc', e3, hn3, hc3, _⟩ := hL3.src
  cases e3
  have HC3 := Lib.hid hc3
  have H13 := Lib.hid (quV_one l)
  have HL3 := Lib.hid (quV_len l)
  have HN3 := Lib.hid hn3
  clear hc3 hn3
  go_wp2_with (at_builtin; refine append_any _ rfl (.tmp 7) (.tmp 9) 72 rfl 9 i0 (.string ByteArray.empty) 16 Try.underlying72 hi hz0 hz1 hz2 rfl w2.heap.size _ 0 [] rfl hE xa l.length xc (quV l) rfl HL3.out HN3.out HC3.out H13.out ?m1 ?m2 (by simp) ?_)
  case m1 => unfold maxLen; omega
  case m2 => omega
  intro v3 w3 hO3 hg3 _
  have hk3 : Below w2.heap.size w2 w3 := hal.grown hg3 (by simp) (fun k hk => by cases hk; exact Nat.le_refl _)
  have hZ3 := hZ2.later hk3
  obtain ⟨ya', yc', e4, hn4, hc4, _⟩ := hZ3.src
  cases e4
  have HC4 := Lib.hid hc4
  have H14 := Lib.hid (quV_one zs)
  have HL4 := Lib.hid (quV_len zs)
  have HN4 := Lib.hid hn4
  have hsz3 := hk3.size
  clear hc4 hn4 hg3 hE hL3 hal HC3 HN3
  go_wp2_with (at_builtin; refine append_any _ rfl (.tmp 10) (.tmp 11) 72 rfl 9 i0 (.string ByteArray.empty) 16 Try.underlying72 hi hz0 hz1 hz2 rfl w2.heap.size _ l.length (quV l) rfl hO3 ya zs.length yc (quV zs) rfl HL4.out HN4.out HC4.out H14.out ?m3 ?m4 hsz3 ?_)
  case m3 => unfold maxLen; omega
  case m4 => omega
  intro v4 w4 hO4 hg4 _
  have hk4 : Below w2.heap.size w2 w4 := hk3.grown hg4 hsz3 (fun k hk => (hO3.1.lt k hk).1)
  rw [← HVA.out] at hO4
  obtain ⟨a4, c4, rfl⟩ := hO4.form
  have hX0_4 := hX0.later hk4
  have hX1_4 := hX1.later hk4
  have hb4 := hb.trans (hk4.mono (Nat.le_of_lt hlt2))
  have hO5 := hO4.base (Nat.zero_le _)
  have HBy := Lib.hid (refQBytes_q hO4.drew (by omega) (by rw [HT.out]; omega))
  rw [HT.out] at HBy
  clear hX0 hX1 hb hk3 hk4 hg4 hO3 hO4 hZ3 hZ2 hL2 HC4 HN4 H13 H14 HL3 HL4 hsz3 hlt2
  obtain ⟨_, _, _⟩ := hX0_4.cells
  obtain ⟨_, _, _⟩ := hX0_4.frees
  obtain ⟨_, _, _⟩ := hX1_4.cells
  obtain ⟨_, _, _⟩ := hX1_4.frees
  generalize hTL : quTot l + quTot zs = T at *
  have hd1 : decide (M < (l.length : Int) + zs.length) = false := by simp; omega
  have hd2 : decide (B < T) = false := by simp; omega
  go_upto_region 2 with fail
  go_region_held3 (fun W => W.cell? ⟨g0, 0, none⟩ = some (.int .i64 M) ∧ W.cell? ⟨g0, 1, none⟩ = some (.int .i64 B)) (first | (go_keep; done) | exact ⟨hX0_4.cells.1, hX0_4.cells.2.1⟩) (first | (go_at_call 68; refine HBy.out.mono ?_; rintro e w' ⟨rfl, rfl⟩))
  all_goals
    go_upto_region 4 with fail
    have hX0_5 := hX0_4.drew
    have hX1_5 := hX1_4.drew
    have hb5 := hb4.drew
    have hO6 := hO5.drew
    generalize w4.drew = w5 at hX0_5 hX1_5 hb5 hO6 ⊢
    obtain ⟨_, _, _⟩ := hX0_5.frees
    obtain ⟨_, _, _⟩ := hX0_5.cells
    obtain ⟨_, _, _⟩ := hX1_5.frees
    obtain ⟨_, _, _⟩ := hX1_5.cells
    go_upto_region 5 with fail
    have hX0_6 := (at3_set2 hX0_5 (.slice a4 (l.length + zs.length) c4))
    have ho6 := ((Only.refl g0 w5).setCell 2 (.slice a4 (l.length + zs.length) c4))
    have hX1_6 := hX1_5.only hne10 ho6
    have hb6 := hb5.trans (ho6.below (Nat.le_refl _))
    have hO7 := hO6.onlyG (x := hX0_5) ho6 (by decide)
    generalize (w5.setCell ⟨g0, 2, none⟩ (.slice a4 (l.length + zs.length) c4)) = w6 at hX0_6 hX1_6 hb6 hO7 ⊢
    clear ho6
    obtain ⟨_, _, _⟩ := hX0_6.frees
    obtain ⟨_, _, _⟩ := hX0_6.cells
    obtain ⟨_, _, _⟩ := hX1_6.frees
    obtain ⟨_, _, _⟩ := hX1_6.cells
    have hZ := at3_store hX1_6 (.int .i64 M) (.int .i64 B) (.slice a4 (l.length + zs.length) c4)
    have hO8 := hO7.onlyG (x := hX1_6) (store3_only w6 g1 (.int .i64 M) (.int .i64 B) (.slice a4 (l.length + zs.length) c4)) (by decide)
    have hbz := hb6.trans ((store3_only w6 g1 (.int .i64 M) (.int .i64 B) (.slice a4 (l.length + zs.length) c4)).below hle1)
    obtain ⟨d0, d1, d2⟩ := hZ.cells
    go_wp2_with fail
    refine bodyPost_ret (v := .tuple #[.agg #[.int .i64 M, .int .i64 B, .slice a4 (l.length + zs.length) c4], .bool true]) (by simp [results, Try.results62, go_sem, d0, d1, d2]) rfl ⟨_, rfl, hO8, by rw [HG.out]; exact hbz⟩
end Go.Proofs.Ytgmggilnhkdceaa
