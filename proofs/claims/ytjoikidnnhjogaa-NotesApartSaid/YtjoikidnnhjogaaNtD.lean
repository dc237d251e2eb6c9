/- notes.back, for what an application says; ToApp. -/
import Derived.Test.YtjoikidnnhjogaaNtB
import Derived.Test.YtjoikidnnhjogaaNtC
namespace Go.Proofs.Ytjoikidnnhjogaa
open Go.RowKit
set_option linter.unusedVariables false
/-- What ToApp leaves. -/
def ToAd (p : PC) (w : World) (e : Ending) (w' : World) : Prop := e = .returned (.tuple #[.agg #[.int .i64 (toA p).sub, .int .u32 (toA p).src, .string (toA p).name, .string (toA p).data], .int .i64 (toAE p)]) ∧ Below w.heap.size w w'
set_option maxRecDepth 100000 in
set_option maxHeartbeats 3200000 in
theorem backApp_any (p : PC) (w : World) (hs : p.body.size ≤ 1099511627776) :
    Calls Try.prog 83 #[.agg #[.int .i64 p.count, .int .i64 p.kind, .string p.body], .int .i64 204, .func (.func 84) #[] #[], .func (.func 35) #[] #[]] w (ToAd p w) := by
  unfold ToAd
  have HRd := Lib.hid (fun W => readApp_any p W hs)
  have hnm : (apRd p).name.size ≤ 9223372036854775807 := by unfold apRd; exact Nat.le_trans (rawT_le _ 4) (by decide)
  have hdt : (apRd p).data.size ≤ 9223372036854775807 := by
    unfold apRd
    simp only
    have h1 := rawT_le (rd (rd (p.body, 0) 4) 4).1 (rd (rd (p.body, 0) 4) 4).1.size
    have h2 : (rd (rd (p.body, 0) 4) 4).1.size ≤ (rd (p.body, 0) 4).1.size := rawS_le _ _ _
    have h3 : (rd (p.body, 0) 4).1.size ≤ p.body.size := rawS_le _ _ _
    omega
  have HPi := Lib.hid (fun W => apPiece_any (apRd p) W hnm hdt)
  have hE : toAE p = if p.kind ≠ 204 then 5 else if apP (apRd p) = p then 0 else 1 := rfl
  have hT : toA p = if toAE p = 0 then apRd p else zeroAP := rfl
  generalize toA p = tA at hT ⊢
  generalize toAE p = tE at hE hT ⊢
  generalize apP (apRd p) = q at HPi hE
  generalize apRd p = nt at HPi HRd hT
  clear hnm hdt
  obtain ⟨nsub, nsrc, nname, ndata⟩ := nt
  obtain ⟨count, kind, s⟩ := p
  obtain ⟨qc, qk, qs⟩ := q
  simp only at *
  have hX1 := pc_new w ⟨count, kind, s⟩
  have hX2 := hX1.alloc (.cells #[.int .i64 0, .int .u32 0, .string { data := #[] }, .string { data := #[] }] 76)
  have hY2 := atC_new 76 (w.alloc (.cells #[.int .i64 count, .int .i64 kind, .string s] 33)) #[.int .i64 0, .int .u32 0, .string { data := #[] }, .string { data := #[] }]
  have hb2 : Below w.heap.size w ((w.alloc (.cells #[.int .i64 count, .int .i64 kind, .string s] 33)).alloc (.cells #[.int .i64 0, .int .u32 0, .string { data := #[] }, .string { data := #[] }] 76)) := by go_grown
  have hne : (w.alloc (.cells #[.int .i64 count, .int .i64 kind, .string s] 33)).heap.size = w.heap.size + 1 := by simp
  rw [hne] at hY2
  clear hX1 hne
  go_enter Try.func83, Try.ntmps83
  go_upto_region 1 with fail
  generalize (w.alloc (.cells #[.int .i64 count, .int .i64 kind, .string s] 33)).alloc (.cells #[.int .i64 0, .int .u32 0, .string { data := #[] }, .string { data := #[] }] 76) = w2 at hX2 hY2 hb2 ⊢
  have hgB : w.heap.size ≤ w.heap.size + 1 := by omega
  have hgn : w.heap.size ≠ w.heap.size + 1 := by omega
  generalize hg2 : w.heap.size + 1 = g2 at hY2 hgB hgn ⊢
  generalize hg : w.heap.size = g at hX2 hb2 hgB hgn ⊢
  have HG := Lib.hid hg
  clear hg2 hg
  have hX3 := hX2.alloc (.cells #[.int .i64 0, .int .u32 0, .string { data := #[] }, .string { data := #[] }] 76)
  have hY3 := hY2.alloc (.cells #[.int .i64 0, .int .u32 0, .string { data := #[] }, .string { data := #[] }] 76)
  have hN3 := atC_new 76 w2 #[.int .i64 0, .int .u32 0, .string { data := #[] }, .string { data := #[] }]
  have hb3 := hb2.alloc (by have := hX2.lt; omega) (.cells #[.int .i64 0, .int .u32 0, .string { data := #[] }, .string { data := #[] }] 76)
  have hn3 : g2 < w2.heap.size := hY2.lt
  go_upto_region 2 with fail
  generalize w2.alloc (.cells #[.int .i64 0, .int .u32 0, .string { data := #[] }, .string { data := #[] }] 76) = w3 at hX3 hY3 hN3 hb3 ⊢
  generalize w2.heap.size = g3 at hN3 hn3 ⊢
  clear hX2 hY2 hb2
  obtain ⟨x0, x1, x2, _⟩ := pcAt_S hX3
  obtain ⟨z0, z1, z2, z3⟩ := hN3.cells4
  have hg3 : g < w3.heap.size := hX3.lt
  by_cases hk : kind = 204
  · subst hk
    rw [if_neg (by simp)] at hE
    go_wp2_with fail
    refine (HRd.out _).mono ?_
    rintro e w4 ⟨rfl, hb4⟩
    have hal : Below w4.heap.size w4 (w4.alloc (.cells #[.int .i64 nsub, .int .u32 nsrc, .string nname, .string ndata] 76)) := (Below.refl _ _).alloc (Nat.le_refl _) _
    have hX5 := (hX3.later hb4).alloc (.cells #[.int .i64 nsub, .int .u32 nsrc, .string nname, .string ndata] 76)
    have hY5 := (hY3.later hb4).alloc (.cells #[.int .i64 nsub, .int .u32 nsrc, .string nname, .string ndata] 76)
    have hN5 := (hN3.later hb4).alloc (.cells #[.int .i64 nsub, .int .u32 nsrc, .string nname, .string ndata] 76)
    have hM5 := atC_new 76 w4 #[.int .i64 nsub, .int .u32 nsrc, .string nname, .string ndata]
    have hbb4 := hb3.trans (hb4.mono (by omega))
    have hg4 : g < w4.heap.size := by have := hb4.size; omega
    have hbb5 := hbb4.trans (hal.mono (by omega))
    clear hX3 hY3 hN3 hb3 hb4 hal hbb4 HRd x0 x1 x2 z0 z1 z2 z3
    go_upto_region 5 with fail
    generalize w4.alloc (.cells #[.int .i64 nsub, .int .u32 nsrc, .string nname, .string ndata] 76) = w5 at hX5 hY5 hN5 hM5 hbb5 ⊢
    generalize w4.heap.size = g4 at hM5 hg4 ⊢
    obtain ⟨x0, x1, x2, _⟩ := pcAt_S hX5
    obtain ⟨m0, m1, m2, m3⟩ := hM5.cells4
    have hg5 : g ≤ w5.heap.size := by have := hX5.lt; omega
    have hd5 : Below w5.heap.size w5 w5.drew := by go_grown
    by_cases hq : (⟨qc, qk, qs⟩ : PC) = ⟨count, 204, s⟩
    · rw [if_pos hq] at hE
      cases hq
      subst hE
      rw [if_pos rfl] at hT
      subst hT
      go_cut [24] (fun z wx => z = .bool false ∧ Below w5.heap.size w5 wx)
      case first =>
        go_region_law (first | (go_simp; refine (HPi.out _).mono ?_; rintro e w6 ⟨rfl, hb6⟩; have hh6 := hd5.trans hb6; obtain ⟨_, _, _, _⟩ := pcAt_S (hX5.later hh6)))
        all_goals
          go_wp2_with fail
          go_meet
          exact ⟨by simp, hh6⟩
      case rest =>
      obtain ⟨rfl, hb6⟩ := hcut
      rename World => w6
      have hY6 := hY5.later hb6
      have hM6 := hM5.later hb6
      have hbb6 := hbb5.trans (hb6.mono hg5)
      clear hX5 hY5 hN5 hM5 hbb5 hb6 x0 x1 x2 m0 m1 m2 m3 hd5
      obtain ⟨m0, m1, m2, m3⟩ := hM6.cells4
      obtain ⟨y0, y1, y2, y3⟩ := hY6.cells4
      obtain ⟨f0, f1, f2, f3⟩ := hY6.frees4
      have hz8 := at4_store (.int .i64 nsub) (.int .u32 nsrc) (.string nname) (.string ndata) hY6
      have hoz := store4_only w6 g2 (.int .i64 nsub) (.int .u32 nsrc) (.string nname) (.string ndata)
      have hbz := hbb6.trans (hoz.below hgB)
      go_wp2_with fail
      generalize (((w6.setCell ⟨g2, 0, none⟩ (.int .i64 nsub)).setCell ⟨g2, 1, none⟩ (.int .u32 nsrc)).setCell ⟨g2, 2, none⟩ (.string nname)).setCell ⟨g2, 3, none⟩ (.string ndata) = wz at hz8 hoz hbz ⊢
      obtain ⟨d0, d1, d2, d3⟩ := hz8.cells4
      clear f0 f1 f2 f3 y0 y1 y2 y3
      refine bodyPost_ret (v := .tuple #[.agg #[.int .i64 nsub, .int .u32 nsrc, .string nname, .string ndata], .int .i64 0]) (by simp [results, Try.results83, go_sem, d0, d1, d2, d3]) rfl ⟨rfl, by rw [HG.out]; exact hbz⟩
    · rw [if_neg hq] at hE
      subst hE
      rw [if_neg (by decide)] at hT
      subst hT
      have h3 : (¬ qc = count) ∨ (qc = count ∧ ¬ qk = 204) ∨ (qc = count ∧ qk = 204 ∧ ¬ qs.toList = s.toList) := by
        by_cases c1 : qc = count
        · by_cases c2 : qk = 204
          · refine .inr (.inr ⟨c1, c2, fun c3 => hq ?_⟩)
            have c4 : qs = s := by
              have := texts_eq qs s
              rw [c3] at this
              simp at this
              exact this
            rw [c1, c2, c4]
          · exact .inr (.inl ⟨c1, c2⟩)
        · exact .inl c1
      clear hq
      go_cut [24] (fun z wx => z = .bool true ∧ Below w5.heap.size w5 wx)
      case first =>
        rcases h3 with c1 | ⟨rfl, c2⟩ | ⟨rfl, rfl, c3⟩
        all_goals
          go_region_law (first | (go_simp; refine (HPi.out _).mono ?_; rintro e w6 ⟨rfl, hb6⟩; have hh6 := hd5.trans hb6; obtain ⟨_, _, _, _⟩ := pcAt_S (hX5.later hh6)))
          all_goals
            go_wp2_with fail
            go_meet
            exact ⟨rfl, hh6⟩
      case rest =>
      obtain ⟨rfl, hb6⟩ := hcut
      rename World => w6
      have hY6 := hY5.later hb6
      have hN6 := hN5.later hb6
      have hbb6 := hbb5.trans (hb6.mono hg5)
      clear hX5 hY5 hN5 hM5 hbb5 hb6 x0 x1 x2 m0 m1 m2 m3 hd5 h3
      obtain ⟨m0, m1, m2, m3⟩ := hN6.cells4
      obtain ⟨y0, y1, y2, y3⟩ := hY6.cells4
      obtain ⟨f0, f1, f2, f3⟩ := hY6.frees4
      have hz8 := at4_store (.int .i64 0) (.int .u32 0) (.string { data := #[] }) (.string { data := #[] }) hY6
      have hoz := store4_only w6 g2 (.int .i64 0) (.int .u32 0) (.string { data := #[] }) (.string { data := #[] })
      have hbz := hbb6.trans (hoz.below hgB)
      go_wp2_with fail
      generalize (((w6.setCell ⟨g2, 0, none⟩ (.int .i64 0)).setCell ⟨g2, 1, none⟩ (.int .u32 0)).setCell ⟨g2, 2, none⟩ (.string { data := #[] })).setCell ⟨g2, 3, none⟩ (.string { data := #[] }) = wz at hz8 hoz hbz ⊢
      obtain ⟨d0, d1, d2, d3⟩ := hz8.cells4
      clear f0 f1 f2 f3 y0 y1 y2 y3
      refine bodyPost_ret (v := .tuple #[.agg #[.int .i64 0, .int .u32 0, .string { data := #[] }, .string { data := #[] }], .int .i64 1]) (by simp [results, Try.results83, go_sem, d0, d1, d2, d3]) rfl ⟨rfl, by rw [HG.out]; exact hbz⟩
  · rw [if_pos hk] at hE
    subst hE
    rw [if_neg (by decide)] at hT
    subst hT
    have n0 : (kind != 204) = true := by simp [hk]
    obtain ⟨y0, y1, y2, y3⟩ := hY3.cells4
    obtain ⟨f0, f1, f2, f3⟩ := hY3.frees4
    have hz8 := at4_store (.int .i64 0) (.int .u32 0) (.string { data := #[] }) (.string { data := #[] }) hY3
    have hoz := store4_only w3 g2 (.int .i64 0) (.int .u32 0) (.string { data := #[] }) (.string { data := #[] })
    have hbz := hb3.trans (hoz.below hgB)
    go_wp2_with fail
    generalize (((w3.setCell ⟨g2, 0, none⟩ (.int .i64 0)).setCell ⟨g2, 1, none⟩ (.int .u32 0)).setCell ⟨g2, 2, none⟩ (.string { data := #[] })).setCell ⟨g2, 3, none⟩ (.string { data := #[] }) = wz at hz8 hoz hbz ⊢
    obtain ⟨d0, d1, d2, d3⟩ := hz8.cells4
    clear f0 f1 f2 f3 y0 y1 y2 y3
    refine bodyPost_ret (v := .tuple #[.agg #[.int .i64 0, .int .u32 0, .string { data := #[] }, .string { data := #[] }], .int .i64 5]) (by simp [results, Try.results83, go_sem, d0, d1, d2, d3]) rfl ⟨rfl, by rw [HG.out]; exact hbz⟩
set_option maxHeartbeats 1600000 in
theorem toApp_any (p : PC) (w : World) (hs : p.body.size ≤ 1099511627776) :
    Calls Try.prog 37 #[.agg #[.int .i64 p.count, .int .i64 p.kind, .string p.body]] w (ToAd p w) := by
  have HB := Lib.hid (fun W => backApp_any p W hs)
  unfold ToAd at HB ⊢
  generalize toA p = tA at HB ⊢
  generalize toAE p = tE at HB ⊢
  obtain ⟨nsub, nsrc, nname, ndata⟩ := tA
  obtain ⟨count, kind, s⟩ := p
  simp only at *
  have hX1 := pc_new w ⟨count, kind, s⟩
  have hX2 := hX1.alloc (.cells #[.int .i64 0, .int .u32 0, .string { data := #[] }, .string { data := #[] }] 76)
  have hY2 := atC_new 76 (w.alloc (.cells #[.int .i64 count, .int .i64 kind, .string s] 33)) #[.int .i64 0, .int .u32 0, .string { data := #[] }, .string { data := #[] }]
  have hb2 : Below w.heap.size w ((w.alloc (.cells #[.int .i64 count, .int .i64 kind, .string s] 33)).alloc (.cells #[.int .i64 0, .int .u32 0, .string { data := #[] }, .string { data := #[] }] 76)) := by go_grown
  have hne : (w.alloc (.cells #[.int .i64 count, .int .i64 kind, .string s] 33)).heap.size = w.heap.size + 1 := by simp
  rw [hne] at hY2
  clear hX1 hne
  go_enter Try.func37, Try.ntmps37
  go_upto_region 1 with fail
  generalize (w.alloc (.cells #[.int .i64 count, .int .i64 kind, .string s] 33)).alloc (.cells #[.int .i64 0, .int .u32 0, .string { data := #[] }, .string { data := #[] }] 76) = w2 at hX2 hY2 hb2 ⊢
  have hgB : w.heap.size ≤ w.heap.size + 1 := by omega
  generalize hg2 : w.heap.size + 1 = g2 at hY2 hgB ⊢
  generalize hg : w.heap.size = g at hX2 hb2 hgB ⊢
  have HG := Lib.hid hg
  clear hg2 hg
  obtain ⟨x0, x1, x2, _⟩ := pcAt_S hX2
  go_wp2_with fail
  refine (HB.out _).mono ?_
  rintro e w3 ⟨rfl, hb3⟩
  have hY3 := hY2.later hb3
  have hbb3 := hb2.trans (hb3.mono (by have := hX2.lt; omega))
  clear hX2 hY2 hb2 hb3 x0 x1 x2
  obtain ⟨y0, y1, y2, y3⟩ := hY3.cells4
  obtain ⟨f0, f1, f2, f3⟩ := hY3.frees4
  have hz8 := at4_store (.int .i64 nsub) (.int .u32 nsrc) (.string nname) (.string ndata) hY3
  have hoz := store4_only w3 g2 (.int .i64 nsub) (.int .u32 nsrc) (.string nname) (.string ndata)
  have hbz := hbb3.trans (hoz.below hgB)
  go_wp2_with fail
  generalize (((w3.setCell ⟨g2, 0, none⟩ (.int .i64 nsub)).setCell ⟨g2, 1, none⟩ (.int .u32 nsrc)).setCell ⟨g2, 2, none⟩ (.string nname)).setCell ⟨g2, 3, none⟩ (.string ndata) = wz at hz8 hoz hbz ⊢
  obtain ⟨d0, d1, d2, d3⟩ := hz8.cells4
  clear f0 f1 f2 f3 y0 y1 y2 y3
  refine bodyPost_ret (v := .tuple #[.agg #[.int .i64 nsub, .int .u32 nsrc, .string nname, .string ndata], .int .i64 tE]) (by simp [results, Try.results37, go_sem, d0, d1, d2, d3]) rfl ⟨rfl, by rw [HG.out]; exact hbz⟩
end Go.Proofs.Ytjoikidnnhjogaa

