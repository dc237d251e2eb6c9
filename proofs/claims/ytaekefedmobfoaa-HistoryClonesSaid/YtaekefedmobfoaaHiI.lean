/- history: Again in general, Forget, Clone. -/
import Derived.Test.YtaekefedmobfoaaHiH
import Derived.Lib.AppendZeros
namespace Go.Proofs.Ytaekefedmobfoaa
open Go.RowKit
set_option linter.unusedVariables false
set_option linter.unusedSimpArgs false
/-- What Again sends. -/
def hiTo (T s p : Int) (l : List HR) : Option HR := match hiFind s l with | some r => if r.t < T then some (r.ag p) else none | none => none
def hiAgL (T s p : Int) (l : List HR) : List HR := if (hiTo T s p l).isSome = true then hiAg s p l else l
def hiAgN (T s p : Int) (l : List HR) (ag : Int) : Int := if (hiTo T s p l).isSome = true then ag + 1 else ag
theorem hiAgain_any {w : World} {base gh : Nat} {m t : Int} {v : Value} {l : List HR} {ag : Int} (h : HIn w base gh m t v l ag) (hn : HiNn l) (s p : Int) (hag : 0 ≤ ag ∧ ag ≤ 1000000) :
    Calls Try.prog 31 #[.pointer (some ⟨gh, 0, none⟩), .int .i64 s, .int .i64 p] w fun e w' => e = .returned (.tuple #[((hiTo (hiT t) s p l).getD hiZ).val, .bool (hiTo (hiT t) s p l).isSome]) ∧ (∃ v', HIn w' base gh m t v' (hiAgL (hiT t) s p l) (hiAgN (hiT t) s p l ag)) ∧ Below base w w' ∧ KeptH w w' := by
  have hbz : base ≤ w.heap.size := by have := h.at4.lt; have := h.bs; omega
  unfold hiAgL hiAgN hiTo
  cases hf : hiFind s l with
  | none =>
    refine (hiAgainNone h s p hf).mono ?_
    rintro e w' ⟨rfl, hk⟩
    exact ⟨rfl, ⟨v, h.later hk⟩, hk.mono hbz, keptH_below hk⟩
  | some r =>
    have h0 := hn r (List.mem_of_find?_eq_some hf)
    simp only
    by_cases ht : r.t < hiT t
    · simp only [ht, if_true]
      exact hiAgainYes h s p r hf h0 ht hag
    · simp only [ht, if_false]
      refine (hiAgainMuch h s p r hf h0 (by omega)).mono ?_
      rintro e w' ⟨rfl, hk⟩
      exact ⟨rfl, ⟨v, h.later hk⟩, hk.mono hbz, keptH_below hk⟩
theorem hiFg_len {l : List HR} (hu : HiUp l) (s : Int) : (hiPas s l : Int) = (l.length : Int) - (hiFg s l).length := by
  rw [hiFg_drop hu, List.length_drop]
  have := hiPas_le s l
  omega
set_option maxRecDepth 100000 in
set_option maxHeartbeats 1600000 in
theorem hiForget_any {w : World} {base gh : Nat} {m t : Int} {v : Value} {l : List HR} {ag : Int} (h : HIn w base gh m t v l ag) (s : Int) :
    Calls Try.prog 65 #[.pointer (some ⟨gh, 0, none⟩), .int .i64 s] w fun e w' => e = .returned (.int .i64 ((l.length : Int) - (hiFg s l).length)) ∧ (∃ v', HIn w' base gh m t v' (hiFg s l) ag) ∧ Below base w w' ∧ KeptH w w' := by
  rw [← hiFg_len h.up, hiFg_drop h.up]
  have hal : Below w.heap.size w (w.alloc (.cells #[.int .i64 s] 3)) := (Below.refl _ _).alloc (Nat.le_refl _) _
  have hc : (w.alloc (.cells #[.int .i64 s] 3)).cell? ⟨w.heap.size, 0, none⟩ = some (.int .i64 s) := by
    rw [cell_of_row _ w.heap.size 0 _ _ (0, 0) (heap_alloc_new w _)]
    rfl
  have hbz : base ≤ w.heap.size := by have := h.at4.lt; have := h.bs; omega
  have hI := h.later hal
  obtain ⟨a, cap, e, hnc, hcm, _, hrd⟩ := hI.own.rdr
  have h2 := hI.at4.cells.2.2.1
  rw [e] at h2
  have HC := Lib.hid (hiFirstFg_any s l gh w.heap.size cap a _ hI.up hI.small h2 hrd hc)
  have hsz := hal.size
  have hle := hiPas_le s l
  have hkb := keptH_below hal
  have hbb := hal.mono hbz
  have hsb : base ≤ (w.alloc (.cells #[.int .i64 s] 3)).heap.size := by omega
  clear hrd h2 e hc
  go_enter Try.func65, Try.ntmps65
  go_upto_region 1 with fail
  generalize (w.alloc (.cells #[.int .i64 s] 3)) = w2 at *
  generalize hgb : w.heap.size = gb at *
  have HKE : Hid (∃ z, z = hiPas s l) := Lib.hid ⟨_, rfl⟩
  obtain ⟨k, hkk⟩ := HKE.out
  rw [← hkk] at HC hle
  have HKK := Lib.hid hkk
  clear hgb hkk
  go_upto_region 2 with fail
  go_wp2_with fail
  refine HC.out.mono ?_
  rintro e w3 ⟨rfl, hk3⟩
  have hI3 := hI.later hk3
  have hb3 := hbb.trans (hk3.mono hsb)
  have hK3 := hkb.trans (keptH_below hk3)
  have HD := Lib.hid (hiDrop_any hI3 k hle)
  clear hI hI3 hk3 hbb hkb HC h
  go_wp2_with fail
  refine HD.out.mono ?_
  rintro e w4 ⟨rfl, ⟨v4, hI4, _⟩, hk4, hK4, _⟩
  have HI4 := Lib.hid hI4
  clear hI4
  go_wp2_with fail
  go_ret
  exact ⟨by rw [← HKK.out]; rfl, ⟨_, by rw [← HKK.out]; exact HI4.out⟩, hb3.trans hk4, hK3.trans hK4⟩
/-- 'append' of a slice of records, nil or not. -/
theorem append_anyR {P : Program} (w : World) {ops : Array Oper} {rest : List Oper} {o : Oper} {a : Act} {Q : Exit → Act → World → Prop}
    (hg : o.guard = none) (s x : Operand) (t : TypeId) (hop : o.op = Op.call { callee := Callee.builtin Builtin.append, args := #[s, x], argTypes := #[t, t] })
    (e : TypeId) (i : TypeInfo) (z : Value) (size bytes : Nat) (h1 : P.underlying t = some (.slice e)) (h2 : P.info? e = some i) (h3 : i.zero = some z) (h4 : i.size = size) (h5 : i.bytes = bytes) (h6 : z.cells.size = size) (h7 : 0 < size)
    (base : Nat) (v : Value) (n : Nat) (xs : List Value) (hs : a.eval s = v) (hown : OwnE w base e size v n xs)
    (xa : Option Addr) (m c : Nat) (news : List Value) (hx : a.eval x = .slice xa m c) (hn : news.length = m * size) (hnone : xa = none → m = 0 ∧ c = 0) (hc : ∀ ad, xa = some ad → ∀ j u, news[j]? = some u → w.cell? (ad.add j) = some u) (h1c : ∀ u ∈ news, u.oneCell' = true)
    (b1 : n + m ≤ maxLen) (b2 : (n + m) * bytes ≤ 140737488355328) (hbase : base ≤ w.heap.size)
    (hK : ∀ v' w', OwnE w' base e size v' (n + m) (xs ++ news) → w.grownBy w' v.ownBlock → (v'.ownBlock = v.ownBlock ∨ ∃ k, v'.ownBlock = some k ∧ w.heap.size ≤ k) → wpList P ops Q rest (a.put o.dst v') w') :
    wpList P ops Q (o :: rest) a w := by
  cases xa with
  | some ad => exact append_atE w hg s x t hop e i z size bytes h1 h2 h3 h4 h5 h6 h7 base v n xs hs hown ad m c news hx hn (hc ad rfl) h1c b1 b2 hbase hK
  | none =>
    obtain ⟨rfl, rfl⟩ := hnone rfl
    obtain rfl : news = [] := List.eq_nil_of_length_eq_zero (by simpa using hn)
    have hle : ∃ a' c', v = .slice a' n c' ∧ n ≤ c' := by
      rcases hown.1.2 with ⟨rfl, rfl⟩ | ⟨g, off, cap, rfl, _, _, q, _⟩
      · exact ⟨_, _, rfl, Nat.le_refl _⟩
      · exact ⟨_, _, rfl, q⟩
    obtain ⟨a', c', rfl, hle⟩ := hle
    refine Lib.wpList_append_run w hg s x t t hop _ _ hs hx _ w (run_append_nothing w t t o.type e i h1 h2 a' n c' hle _ ?_) (hK _ _ (by simpa using hown) ⟨rfl, rfl, rfl, Nat.le_refl _, fun _ _ _ => rfl⟩ (.inl rfl))
    exact Src.ofNil w h1 0
/-- A row of the call's own as what is appended. -/
theorem OwnE.srcR {W : World} {b n c0 : Nat} {e : TypeId} {v : Value} {xs : List Value} (h : OwnE W b e c0 v n xs) : ∃ xa c, v = .slice xa n c ∧ (xa = none → n = 0 ∧ c = 0) ∧ (∀ ad, xa = some ad → ∀ j u, xs[j]? = some u → W.cell? (ad.add j) = some u) ∧ xs.length = n * c0 := by
  have hl := h.1.1
  rcases h.1.2 with ⟨rfl, e⟩ | ⟨g, off, cap, rfl, _, _, _, _, _, hc⟩
  · exact ⟨none, 0, by rw [e], fun _ => ⟨e, rfl⟩, fun ad h => (by cases h), hl⟩
  · refine ⟨_, _, rfl, fun h => (by cases h), fun ad had j u hu => ?_, hl⟩
    cases had
    rw [Addr.add_lit]
    exact hc j u hu
set_option maxRecDepth 100000 in
set_option maxHeartbeats 1600000 in
theorem hiSClone_any {w : World} {b n : Nat} {v : Value} {l : List HR} (h : OwnE w b 64 4 v n (hiV l)) (hn : n ≤ 1073741824) : Calls Try.prog 68 #[v] w fun e w' => ∃ v', e = .returned v' ∧ OwnE w' w.heap.size 64 4 v' n (hiV l) ∧ Below w.heap.size w w' := by
  obtain ⟨i0, hi, hz0, hz1, hz2⟩ := info_parts info_hrec
  have hl := h.1.1
  rcases h.1.2 with ⟨rfl, e⟩ | ⟨g, off, cap, rfl, _⟩
  · subst e
    have e0 : hiV l = [] := List.eq_nil_of_length_eq_zero (by simpa using hl)
    rw [e0]
    have heq := fun W => Lib.run_eql_slice_nil (P := Try.prog) W 121 64 none 0 0 0 0 Try.underlying121
    go_enter Try.func68, Try.ntmps68
    go_wp2_with fail
    go_ret
    exact ⟨_, rfl, ownE_nil _ _ _ _, Below.refl _ _⟩
  · have hal : Below w.heap.size w (w.alloc (.cells #[] 64)) := (Below.refl _ _).alloc (Nat.le_refl _) _
    have hE : OwnE (w.alloc (.cells #[] 64)) w.heap.size 64 4 (.slice (some ⟨w.heap.size, 0, none⟩) 0 0) 0 [] := ownE_of (World.ownsRow_lit w #[] 0 (Nat.le_refl _) (Nat.zero_le _) rfl)
    obtain ⟨xa, xc, e, hnn, hcc, _⟩ := (h.later hal).srcR
    cases e
    have HC3 := Lib.hid hcc
    have HN3 := Lib.hid hnn
    have H13 := Lib.hid (hiV_one l)
    have HL3 := Lib.hid hl
    clear h hcc hnn hl
    have heq := fun W => Lib.run_eql_slice_nil (P := Try.prog) W 121 64 (some ⟨g, off, none⟩) n cap 0 0 Try.underlying121
    go_enter Try.func68, Try.ntmps68
    go_wp2_with (at_builtin; refine append_anyR _ rfl (.tmp 5) (.tmp 6) 121 rfl 64 i0 (.agg #[.int .i64 0, .int .i64 0, .int .i64 0, .string ByteArray.empty]) 4 40 Try.underlying121 hi hz0 hz1 hz2 rfl (by decide) w.heap.size _ 0 [] rfl hE (some ⟨g, off, none⟩) n cap (hiV l) rfl HL3.out HN3.out HC3.out H13.out ?m1 ?m2 (by simp) ?_)
    case m1 => unfold maxLen; omega
    case m2 => omega
    intro v3 w3 hO3 hg3 _
    have hk3 : Below w.heap.size w w3 := hal.grown hg3 (by simp) (fun k hk => by cases hk; exact Nat.le_refl _)
    go_wp2_with fail
    go_ret
    exact ⟨_, rfl, by simpa using hO3, hk3⟩
set_option maxRecDepth 100000 in
set_option maxHeartbeats 1600000 in
theorem hiClone_any {w : World} {base gh : Nat} {m t : Int} {v : Value} {l : List HR} {ag : Int} (h : HIn w base gh m t v l ag) : Calls Try.prog 28 #[.pointer (some ⟨gh, 0, none⟩)] w fun e w' => ∃ gc v', e = .returned (.pointer (some ⟨gc, 0, none⟩)) ∧ HIn w' w.heap.size gc m t v' l ag ∧ Below w.heap.size w w' := by
  obtain ⟨a, cap, rfl⟩ := h.own.form4
  have hX := at4_new 123 w w.heap.size (.int .i64 m) (.int .i64 t) (.slice a l.length cap) (.int .i64 ag) rfl
  have hb : Below w.heap.size w (w.alloc (.cells #[.int .i64 m, .int .i64 t, .slice a l.length cap, .int .i64 ag] 123)) := (Below.refl _ _).alloc (Nat.le_refl _) _
  have hH := h.later hb
  have hC := Lib.hid (hiSClone_any hH.own (by have := h.small; omega))
  have HU := Lib.hid h.up
  have HL := Lib.hid h.len
  obtain ⟨_, _, _, _⟩ := h.at4.cells
  have hh4 := hH.at4
  have hsz := hb.size
  have hgh : gh < w.heap.size := h.at4.lt
  clear h hH
  go_enter Try.func28, Try.ntmps28
  go_upto_region 2 with fail
  generalize (w.alloc (.cells #[.int .i64 m, .int .i64 t, .slice a l.length cap, .int .i64 ag] 123)) = w2 at *
  generalize hgb : w.heap.size = gb at *
  have HG := Lib.hid hgb
  clear hgb
  obtain ⟨_, _, _, _⟩ := hh4.cells
  go_wp2_with fail
  refine hC.out.mono ?_
  rintro e w3 ⟨v3, rfl, hO3, hk3⟩
  obtain ⟨a3, c3, rfl⟩ := hO3.form4
  have hX3 := hX.later hk3
  have hb3 := hb.trans (hk3.mono hsz)
  have hlt3 := hX.lt
  clear hX hb hk3 hC hh4
  obtain ⟨_, _, _, _⟩ := hX3.cells
  obtain ⟨_, _, _, _⟩ := hX3.frees
  have ho4 := (Only.refl gb w3).setCell 2 (.slice a3 l.length c3)
  have hX4 := at4h_set2 hX3 (.slice a3 l.length c3)
  have hO4 := (hO3.keep (W' := w3.setCell ⟨gb, 2, none⟩ (.slice a3 l.length c3)) (by rw [ho4.size]; exact Nat.le_refl _) (fun q cs hq _ => ho4.block q (fun e => by have := (hO3.1.lt q hq).1; omega))).base hsz
  have hb4 := hb3.trans (ho4.below (Nat.le_refl _))
  have HZ := Lib.hid (show HIn (w3.setCell ⟨gb, 2, none⟩ (.slice a3 l.length c3)) gb gb m t (.slice a3 l.length c3) l ag from ⟨Nat.le_refl _, hX4, hO4, HL.out, HU.out⟩)
  clear hX4 hO4 hO3 ho4
  go_wp2_with fail
  go_ret
  exact ⟨_, _, rfl, by rw [HG.out]; exact HZ.out, by rw [HG.out]; exact hb4⟩
end Go.Proofs.Ytaekefedmobfoaa
