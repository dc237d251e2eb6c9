/- gaps: Clone, ask, Next. -/
import Derived.Test.YtdbmhgfdcdcgfaaGpF
namespace Go.Proofs.Ytdbmhgfdcdcgfaa
open Go.RowKit
set_option linter.unusedVariables false
set_option linter.unusedSimpArgs false
set_option maxRecDepth 100000 in
set_option maxHeartbeats 1600000 in
theorem gpSClone_any {w : World} {b n : Nat} {v : Value} {A : Int} {l : List GW} (h : OwnE w b 69 4 v n (gpV A l)) (hn : n ≤ 1073741824) : Calls Try.prog 27 #[v] w fun e w' => ∃ v', e = .returned v' ∧ OwnE w' w.heap.size 69 4 v' n (gpV A l) ∧ Below w.heap.size w w' := by
  obtain ⟨i0, hi, hz0, hz1, hz2⟩ := info_parts info_pkt
  have hl := h.1.1
  rcases h.1.2 with ⟨rfl, e⟩ | ⟨g, off, cap, rfl, _⟩
  · subst e
    have e0 : gpV A l = [] := List.eq_nil_of_length_eq_zero (by simpa using hl)
    rw [e0]
    have heq := fun W => Lib.run_eql_slice_nil (P := Try.prog) W 55 69 none 0 0 0 0 Try.underlying55
    go_enter Try.func27, Try.ntmps27
    go_wp2_with fail
    go_ret
    exact ⟨_, rfl, ownE_nil _ _ _ _, Below.refl _ _⟩
  · have hal : Below w.heap.size w (w.alloc (.cells #[] 69)) := (Below.refl _ _).alloc (Nat.le_refl _) _
    have hE : OwnE (w.alloc (.cells #[] 69)) w.heap.size 69 4 (.slice (some ⟨w.heap.size, 0, none⟩) 0 0) 0 [] := ownE_of (World.ownsRow_lit w #[] 0 (Nat.le_refl _) (Nat.zero_le _) rfl)
    obtain ⟨xa, xc, e, hnn, hcc, _⟩ := (h.later hal).srcG
    cases e
    have HC3 := Lib.hid hcc
    have HN3 := Lib.hid hnn
    have H13 := Lib.hid (gpV_one A l)
    have HL3 := Lib.hid hl
    clear h hcc hnn hl
    have heq := fun W => Lib.run_eql_slice_nil (P := Try.prog) W 55 69 (some ⟨g, off, none⟩) n cap 0 0 Try.underlying55
    go_enter Try.func27, Try.ntmps27
    go_wp2_with (at_builtin; refine append_anyG _ rfl (.tmp 5) (.tmp 6) 55 rfl 69 i0 (.agg #[.int .i64 0, .int .i64 0, .int .i64 0, .int .i64 0]) 4 32 Try.underlying55 hi hz0 hz1 hz2 rfl (by decide) w.heap.size _ 0 [] rfl hE (some ⟨g, off, none⟩) n cap (gpV A l) rfl HL3.out HN3.out HC3.out H13.out ?m1 ?m2 (by simp) ?_)
    case m1 => unfold maxLen; omega
    case m2 => omega
    intro v3 w3 hO3 hg3 _
    have hk3 : Below w.heap.size w w3 := hal.grown hg3 (by simp) (fun k hk => by cases hk; exact Nat.le_refl _)
    go_wp2_with fail
    go_ret
    exact ⟨_, rfl, by simpa using hO3, hk3⟩
set_option maxRecDepth 100000 in
set_option maxHeartbeats 1600000 in
theorem gpClone_any {w : World} {base gg : Nat} {c : GC} {cm : Bool} {gr : Int} {v : Value} {l : List GW} {gv : Int} (h : GIn w base gg c cm gr v l gv) : Calls Try.prog 14 #[.pointer (some ⟨gg, 0, none⟩)] w fun e w' => ∃ gc v', e = .returned (.pointer (some ⟨gc, 0, none⟩)) ∧ GIn w' w.heap.size gc c cm gr v' l gv ∧ Below w.heap.size w w' := by
  obtain ⟨a, cap, rfl⟩ := h.own.formG
  have hX := at8_new 57 w w.heap.size (.int .i64 c.m) (.int .i64 c.t) (.int .i64 c.f) (.int .i64 c.a) (.bool cm) (.int .i64 gr) (.slice a l.length cap) (.int .i64 gv) rfl
  have hb : Below w.heap.size w (w.alloc (.cells #[.int .i64 c.m, .int .i64 c.t, .int .i64 c.f, .int .i64 c.a, .bool cm, .int .i64 gr, .slice a l.length cap, .int .i64 gv] 57)) := (Below.refl _ _).alloc (Nat.le_refl _) _
  have hH := h.later hb
  have hC := Lib.hid (gpSClone_any hH.own (by have := h.small; omega))
  have HH := Lib.hid h
  obtain ⟨_, _, _, _, _, _, _, _⟩ := h.at8.cells
  have hh8 := hH.at8
  have hsz := hb.size
  have hgh : gg < w.heap.size := h.at8.lt
  clear h hH
  go_enter Try.func14, Try.ntmps14
  go_upto_region 2 with fail
  generalize (w.alloc (.cells #[.int .i64 c.m, .int .i64 c.t, .int .i64 c.f, .int .i64 c.a, .bool cm, .int .i64 gr, .slice a l.length cap, .int .i64 gv] 57)) = w2 at *
  generalize hgb : w.heap.size = gb at *
  have HG := Lib.hid hgb
  clear hgb
  obtain ⟨_, _, _, _, _, _, _, _⟩ := hh8.cells
  go_wp2_with fail
  refine hC.out.mono ?_
  rintro e w3 ⟨v3, rfl, hO3, hk3⟩
  obtain ⟨a3, c3, rfl⟩ := hO3.formG
  have hX3 := hX.later hk3
  have hb3 := hb.trans (hk3.mono hsz)
  have hlt3 := hX.lt
  clear hX hb hk3 hC hh8
  obtain ⟨_, _, _, _, _, _, _, _⟩ := hX3.cells
  obtain ⟨_, _, _, _, _, _, _, _⟩ := hX3.frees
  have ho4 := (Only.refl gb w3).setCell 6 (.slice a3 l.length c3)
  have hX4 := at8_set6 hX3 (.slice a3 l.length c3)
  have hO4 := (hO3.keep (W' := w3.setCell ⟨gb, 6, none⟩ (.slice a3 l.length c3)) (by rw [ho4.size]; exact Nat.le_refl _) (fun q cs hq _ => ho4.block q (fun e => by have := (hO3.1.lt q hq).1; omega))).base hsz
  have hb4 := hb3.trans (ho4.below (Nat.le_refl _))
  have HZ := Lib.hid (show GIn (w3.setCell ⟨gb, 6, none⟩ (.slice a3 l.length c3)) gb gb c cm gr (.slice a3 l.length c3) l gv from ⟨Nat.le_refl _, hX4, hO4, HH.out.ok, HH.out.len, HH.out.up, HH.out.gb, HH.out.nb, HH.out.ab⟩)
  clear hX4 hO4 hO3 ho4
  go_wp2_with fail
  go_ret
  exact ⟨_, _, rfl, by rw [HG.out]; exact HZ.out, by rw [HG.out]; exact hb4⟩
theorem gpAsk_q (p now : Int) (x : GW) (A : Int) (w : World) (hA : 1 ≤ A ∧ A ≤ 1048576) (hk : x.k ≤ 100) (hn : 0 ≤ now ∧ now ≤ 1099511627776) :
    Calls Try.prog 29 #[.agg #[.int .i64 x.n, .int .i64 x.at_, .int .i64 (wtR A x.k), .int .i64 x.k], .int .i64 now] w fun e w' => e = .returned (.agg #[.int .i64 x.n, .int .i64 (now + wtR A x.k), .int .i64 (wtR A (x.k + 1)), .int .i64 ((x.k : Int) + 1)]) ∧ Below w.heap.size w w' := by
  have hw := wtR_bd A hA x.k
  have hw1 : wtR A (x.k + 1) = min (2 * wtR A x.k) 1048576 := rfl
  rw [hw1]
  obtain ⟨n, at_, k⟩ := x
  simp only at hk hw ⊢
  generalize wtR A k = wt at *
  have hX := at4_new 69 w w.heap.size (.int .i64 n) (.int .i64 at_) (.int .i64 wt) (.int .i64 k) rfl
  have hb : Below w.heap.size w (w.alloc (.cells #[.int .i64 n, .int .i64 at_, .int .i64 wt, .int .i64 k] 69)) := (Below.refl _ _).alloc (Nat.le_refl _) _
  have hz : (w.alloc (.cells #[.int .i64 n, .int .i64 at_, .int .i64 wt, .int .i64 k] 69)).heap.size = w.heap.size + 1 := by simp
  clear hw1
  go_enter Try.func29, Try.ntmps29
  go_upto_region 1 with fail
  generalize (w.alloc (.cells #[.int .i64 n, .int .i64 at_, .int .i64 wt, .int .i64 k] 69)) = w2 at *
  generalize hg0 : w.heap.size = g0 at *
  have HG := Lib.hid hg0
  clear hg0
  obtain ⟨_, _, _, _⟩ := (hX.alloc (.cells #[.int .i64 0, .int .i64 0, .int .i64 0, .int .i64 0] 69)).cells
  obtain ⟨_, _, _, _⟩ := (at4_new 69 w2 (g0 + 1) (.int .i64 0) (.int .i64 0) (.int .i64 0) (.int .i64 0) hz.symm).cells
  obtain ⟨_, _, _, _⟩ := (at4_new 69 w2 (g0 + 1) (.int .i64 0) (.int .i64 0) (.int .i64 0) (.int .i64 0) hz.symm).frees
  obtain ⟨_, _, _, _⟩ := hX.cells
  go_wp2_with fail
  obtain ⟨d0, d1, d2, d3⟩ := (at4_new 69 w2 (g0 + 1) (.int .i64 n) (.int .i64 (now + wt)) (.int .i64 (min (2 * wt) 1048576)) (.int .i64 ((k : Int) + 1)) hz.symm).cells
  refine bodyPost_ret (v := .agg #[.int .i64 n, .int .i64 (now + wt), .int .i64 (min (2 * wt) 1048576), .int .i64 ((k : Int) + 1)]) (by simp [results, Try.results29, go_sem, d0, d1, d2, d3]) rfl ⟨rfl, by rw [HG.out]; exact hb.alloc (by omega) _⟩
/-- The least tick of those that are wanting, and of another one. -/
def gpMn (a : Int) (l : List GW) : Int := l.foldl (fun a r => min a r.at_) a
theorem gpMn_take (a : Int) (l : List GW) (k : Nat) (r : GW) (h : l[k]? = some r) : gpMn a (l.take (k + 1)) = min (gpMn a (l.take k)) r.at_ := by
  unfold gpMn
  rw [List.take_add_one, h, List.foldl_append]
  rfl
theorem gpNext_nil {w : World} {base gg : Nat} {c : GC} {cm : Bool} {gr : Int} {v : Value} {gv : Int} (h : GIn w base gg c cm gr v [] gv) : Calls Try.prog 18 #[.pointer (some ⟨gg, 0, none⟩)] w fun e w' => e = .returned (.tuple #[.int .i64 0, .bool false]) ∧ Below w.heap.size w w' := by
  obtain ⟨a, cap, rfl, _, _, _, _⟩ := h.own.rdg
  obtain ⟨_, _, _, _, _, _, _, _⟩ := h.at8.cells
  clear h
  simp only [List.length_nil] at *
  go_enter Try.func18, Try.ntmps18
  go_wp2_with fail
  refine bodyPost_ret (v := .tuple #[.int .i64 0, .bool false]) (by simp [results, Try.results18, go_sem]) rfl ⟨rfl, Below.refl _ _⟩
set_option maxRecDepth 100000 in
set_option maxHeartbeats 1600000 in
theorem gpNext_any {w : World} {base gg : Nat} {c : GC} {cm : Bool} {gr : Int} {v : Value} {l : List GW} {gv : Int} (h : GIn w base gg c cm gr v l gv) (r0 : GW) (h0 : l[0]? = some r0) :
    Calls Try.prog 18 #[.pointer (some ⟨gg, 0, none⟩)] w fun e w' => e = .returned (.tuple #[.int .i64 (gpMn r0.at_ l), .bool true]) ∧ Below w.heap.size w w' := by
  have hsm := h.small
  obtain ⟨a, cap, rfl, _, _, _, hrd⟩ := h.own.rdg
  have HR1 := Lib.hid (fun W (hb : Below w.heap.size w W) => hrd.later hb)
  obtain ⟨_, _, _, _, _, _, _, _⟩ := h.at8.cells
  have hl0 : 0 < l.length := (List.getElem?_eq_some_iff.1 h0).1
  obtain ⟨g0, off0, rfl, d0, d1, d2, d3⟩ := hrd 0 r0 h0
  have hne : (l.length == 0) = false := by rw [beq_eq_false_iff_ne]; omega
  have HT := Lib.hid (gpMn_take r0.at_ l)
  have HT0 := Lib.hid (show gpMn r0.at_ (l.take 0) = r0.at_ from rfl)
  generalize r0.at_ = f0 at *
  generalize wtR c.a r0.k = wt0 at *
  clear h hrd h0
  rw [Nat.zero_mul, Nat.add_zero] at d0 d1 d2 d3
  generalize hgs : w.heap.size = gs at *
  have HG := Lib.hid hgs
  clear hgs
  go_enter Try.func18, Try.ntmps18
  go_wp2_with fail
  go_loopw [4, 25] (fun f i wr => ∃ k : Nat, k ≤ l.length ∧ i = .int .i64 k ∧ f = .int .i64 (gpMn f0 (l.take k)) ∧ Below gs w wr) (fun f i _ => l.length - (intOf i).toNat)
  case atStart => exact ⟨0, Nat.zero_le _, rfl, by rw [HT0.out], by rw [← HG.out]; exact Below.refl _ _⟩
  case round =>
    obtain ⟨k, hk, rfl, rfl, hb⟩ := hrel
    by_cases hlt : k < l.length
    · obtain ⟨r, hr⟩ : ∃ r, l[k]? = some r := ⟨_, List.getElem?_eq_getElem hlt⟩
      obtain ⟨g, off, ea, c0, c1, c2, c3⟩ := HR1.out wr hb k r hr
      cases ea
      have HT1 := Lib.hid (HT.out k r hr)
      obtain ⟨n, at_, kk⟩ := r
      simp only at c0 c1 c2 c3 HT1
      generalize wtR c.a kk = wt at *
      have hX := at4_new 69 wr wr.heap.size (.int .i64 n) (.int .i64 at_) (.int .i64 wt) (.int .i64 kk) rfl
      have hb3 := hb.alloc (show gs ≤ wr.heap.size by have := hb.size; have := HG.out; omega) (.cells #[.int .i64 n, .int .i64 at_, .int .i64 wt, .int .i64 kk] 69)
      generalize gpMn f0 (l.take k) = fk at *
      clear hr
      go_upto_region 7 with fail
      generalize wr.alloc (.cells #[.int .i64 n, .int .i64 at_, .int .i64 wt, .int .i64 kk] 69) = w3 at hX hb3 ⊢
      generalize wr.heap.size = g3 at hX ⊢
      clear hb c0 c1 c2 c3
      obtain ⟨_, _, _, _⟩ := hX.cells
      go_wp2_with fail
      go_roundw
      case rel => exact ⟨k + 1, by omega, by go_num, by rw [HT1.out], hb3⟩
      case measure => simp [intOf]; omega
    · obtain rfl : k = l.length := by omega
      rw [List.take_length]
      generalize hfk : gpMn f0 l = fk
      have HFK := Lib.hid hfk
      clear hfk
      go_wp2_with fail
      refine bodyPost_ret (v := .tuple #[.int .i64 fk, .bool true]) (by simp [results, Try.results18, go_sem]) rfl ⟨by rw [HFK.out], hb⟩

end Go.Proofs.Ytdbmhgfdcdcgfaa
