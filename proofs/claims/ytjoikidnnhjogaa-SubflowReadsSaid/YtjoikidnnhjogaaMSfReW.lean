/- SubflowReads: the walk. -/
import Derived.Test.YtjoikidnnhjogaaMSfZ
import Derived.Test.YtjoikidnnhjogaaMSfJ
import Derived.Test.YtjoikidnnhjogaaMSfN
import Derived.Test.YtjoikidnnhjogaaMa
namespace Go.Proofs.Ytjoikidnnhjogaa
open Go.RowKit
set_option linter.unusedVariables false
theorem sf_S {T U V : TypeId} {W w : World} {B g b d : Nat} {c0 c1 c2 e0 e1 i0 i1 : Value} (h : AtC T W g #[c0, c1, c2]) (k : AtC U W b #[e0, e1]) (l : AtC V W d #[i0, i1]) (hb : Below B w W) : W.cell? ⟨g, 0, none⟩ = some c0 ∧ W.cell? ⟨g, 1, none⟩ = some c1 ∧ W.cell? ⟨g, 2, none⟩ = some c2 ∧ W.cell? ⟨b, 0, none⟩ = some e0 ∧ W.cell? ⟨b, 1, none⟩ = some e1 ∧ W.cell? ⟨d, 0, none⟩ = some i0 ∧ W.cell? ⟨d, 1, none⟩ = some i1 ∧ Below B w W := by
  obtain ⟨a0, a1, a2⟩ := h.cells3
  obtain ⟨f0, f1⟩ := k.cells2
  obtain ⟨j0, j1⟩ := l.cells2
  exact ⟨a0, a1, a2, f0, f1, j0, j1, hb⟩
namespace subflowReads
set_option maxRecDepth 100000 in
set_option maxHeartbeats 6400000 in
theorem walk (count kind : Int) (s0 : ByteArray) (w0 : (Lit.int .i64 count).wf = true) (w1 : (Lit.int .i64 kind).wf = true) (w2 : s0.size ≤ maxLen) (w : World) :
    Calls Try.prog 3 #[.agg #[.int .i64 count, .int .i64 kind, .string s0]] w fun e w' => e = .returned (.bool true) ∧ Below w.heap.size w w' := by
  unfold maxLen at w2
  clear w0 w1
  have hsz := (cut_size s0 500).1
  have hC := Lib.hid (fun W => cut_any s0 500 W (by omega) (by omega))
  generalize cutB s0 500 = s at hsz hC
  have hL := fun W => toLis_any ⟨count, kind, s⟩ W (by show s.size ≤ _; omega)
  have hLR := fun W => refToLis_any ⟨count, kind, s⟩ W hsz
  have hA := fun W => toAds_any ⟨count, kind, s⟩ W (by show s.size ≤ _; omega)
  have hAR := fun W => refToAds_any ⟨count, kind, s⟩ W hsz
  have hla := Lib.hid (lis_all ⟨count, kind, s⟩ hsz)
  have haa := Lib.hid (ads_all ⟨count, kind, s⟩ hsz)
  unfold ToLd at hL
  unfold RefLis at hLR
  unfold ToSd at hA
  unfold RefAds at hAR
  obtain ⟨⟨qs, ql⟩, hq⟩ : ∃ q : LS, toLq ⟨count, kind, s⟩ = q := ⟨_, rfl⟩
  obtain ⟨⟨zs, zl⟩, hz⟩ : ∃ q : AS, toS ⟨count, kind, s⟩ = q := ⟨_, rfl⟩
  simp only [hq] at hL hla
  simp only [hz] at hA haa
  generalize toLE ⟨count, kind, s⟩ = E at hL hLR hla
  generalize toSE ⟨count, kind, s⟩ = G at hA hAR haa
  clear hq hz w2
  have HL := Lib.hid hL
  have HLR := Lib.hid hLR
  have HA := Lib.hid hA
  have HAR := Lib.hid hAR
  clear hL hLR hA hAR
  have hX := atC_new 23 w #[.int .i64 count, .int .i64 kind, .string s0]
  have hb : Below w.heap.size w (w.alloc (.cells #[.int .i64 count, .int .i64 kind, .string s0] 23)) := (Below.refl _ _).alloc (Nat.le_refl _) _
  go_enter Try.func3, Try.ntmps3
  go_upto_region 1 with fail
  generalize w.alloc (.cells #[.int .i64 count, .int .i64 kind, .string s0] 23) = w1 at hX hb ⊢
  generalize hg : w.heap.size = g at hX hb ⊢
  have HG := Lib.hid hg
  clear hg
  have hlt := hX.lt
  go_wp2_with fail
  refine (sfAwake_any _).mono ?_
  rintro e w2 ⟨rfl, hk2⟩
  have hX2 := hX.later hk2
  have hb2 := hb.trans (hk2.mono (by omega))
  clear hX hb hk2 hlt
  obtain ⟨_, _, x2⟩ := hX2.cells3
  have f2 := hX2.free 2
  go_wp2_with fail
  refine (hC.out _).mono ?_
  rintro e w' ⟨rfl, rfl⟩
  go_upto_region 4 with fail
  have hX3 : AtC 23 (w2.setCell ⟨g, 2, none⟩ (.string s)) g #[.int .i64 count, .int .i64 kind, .string s] := block_setCell hX2
  have hb3 := hb2.setCell (p := ⟨g, 2, none⟩) (Nat.le_refl _) (.string s)
  generalize w2.setCell ⟨g, 2, none⟩ (.string s) = w3 at hX3 hb3 ⊢
  clear hX2 hb2 x2 f2
  obtain ⟨_, _, _⟩ := hX3.cells3
  have l3 := hX3.lt
  go_wp2_with fail
  refine (HL.out _).mono ?_
  rintro e w4 ⟨hk4, a1, c1, rfl, hrL⟩
  have hX4 := (hX3.later hk4).alloc (.cells #[.int .u32 qs, .slice a1 ql.length c1] 29)
  have hY4 := atC_new 29 w4 #[.int .u32 qs, .slice a1 ql.length c1]
  have hr4 := hrL.later ((Below.refl w4.heap.size w4).alloc (Nat.le_refl _) (.cells #[.int .u32 qs, .slice a1 ql.length c1] 29))
  have hb4 := (hb3.trans (hk4.mono (by omega))).alloc (by have := (hX3.later hk4).lt; omega) (.cells #[.int .u32 qs, .slice a1 ql.length c1] 29)
  go_upto_region 5 with fail
  generalize w4.alloc (.cells #[.int .u32 qs, .slice a1 ql.length c1] 29) = w5 at hX4 hY4 hr4 hb4 ⊢
  generalize w4.heap.size = gl at hY4 ⊢
  clear hk4 hX3 hb3 l3 hrL
  obtain ⟨_, _, _⟩ := hX4.cells3
  have l5 := hX4.lt
  go_wp2_with fail
  refine (HLR.out _).mono ?_
  rintro e w6 ⟨hk6, a2, c2, L, S, h0, h1, hr6', rfl⟩
  try simp only at h0 h1
  obtain ⟨hqe, S0, S1, hLl, hLu, hLp⟩ := hla.out L S h0 h1
  obtain ⟨rfl, rfl⟩ : qs = S ∧ ql = L := by cases hqe; exact ⟨rfl, rfl⟩
  have hX6 := hX4.later hk6
  have hY6 := hY4.later hk6
  have hr6 := hr4.later hk6
  have hb6 := hb4.trans (hk6.mono (by omega))
  clear hk6 hX4 hY4 hr4 hb4 l5 h0 h1 hqe hla HL HLR
  replace hLp := Lib.hid hLp
  replace hLu := Lib.hid hLu
  obtain ⟨_, _, _⟩ := hX6.cells3
  have l6 := hX6.lt
  go_wp2_with fail
  refine (HA.out _).mono ?_
  rintro e w7 ⟨hk7, a3, c3, rfl, hrA⟩
  have hX7 := (hX6.later hk7).alloc (.cells #[.int .u32 zs, .slice a3 zl.length c3] 39)
  have hY7 := (hY6.later hk7).alloc (.cells #[.int .u32 zs, .slice a3 zl.length c3] 39)
  have hZ7 := atC_new 39 w7 #[.int .u32 zs, .slice a3 zl.length c3]
  have hq7 := (Below.refl w7.heap.size w7).alloc (Nat.le_refl _) (.cells #[.int .u32 zs, .slice a3 zl.length c3] 39)
  have hr7 := (hr6.later hk7).later hq7
  have hr7' := (hr6'.later hk7).later hq7
  have hrA7 := hrA.later hq7
  have hb7 := (hb6.trans (hk7.mono (by omega))).alloc (by have := (hX6.later hk7).lt; omega) (.cells #[.int .u32 zs, .slice a3 zl.length c3] 39)
  go_upto_region 7 with fail
  generalize w7.alloc (.cells #[.int .u32 zs, .slice a3 zl.length c3] 39) = w8 at hX7 hY7 hZ7 hr7 hr7' hrA7 hb7 ⊢
  generalize w7.heap.size = ga at hZ7 ⊢
  clear hk7 hX6 hY6 hr6 hr6' hb6 l6 hrA hq7
  obtain ⟨_, _, _⟩ := hX7.cells3
  have l8 := hX7.lt
  go_wp2_with fail
  refine (HAR.out _).mono ?_
  rintro e w9 ⟨hk9, a4, c4, L2, S2, h0, h1, hr9', rfl⟩
  try simp only at h0 h1
  obtain ⟨hqe, S20, S21, hL2l, hL2p⟩ := haa.out L2 S2 h0 h1
  obtain ⟨rfl, rfl⟩ : zs = S2 ∧ zl = L2 := by cases hqe; exact ⟨rfl, rfl⟩
  have hX9 := hX7.later hk9
  have hY9 := hY7.later hk9
  have hZ9 := hZ7.later hk9
  have hr9 := hr7.later hk9
  have hrL9' := hr7'.later hk9
  have hrA9 := hrA7.later hk9
  have hb9 := hb7.trans (hk9.mono (by omega))
  clear hk9 hX7 hY7 hZ7 hr7 hr7' hrA7 hb7 l8 h0 h1 hqe haa HA HAR
  replace hL2p := Lib.hid hL2p
  obtain ⟨y0, y1⟩ := hY9.cells2
  obtain ⟨z0, z1⟩ := hZ9.cells2
  have v1 : IntKind.i64.wrap qs = qs := IntWalk.i64_in _ ⟨by omega, by omega⟩
  have v2 : IntKind.i64.wrap zs = zs := IntWalk.i64_in _ ⟨by omega, by omega⟩
  have l9 := hX9.lt
  go_wp2_with fail
  refine (lines_any ql a1 _ c1 _ rfl hr9 hLl hLu.out).mono ?_
  rintro e w10 ⟨a5, c5, rfl, hrl, hk10⟩
  have hX10 := hX9.later hk10
  have hY10 := hY9.later hk10
  have hZ10 := hZ9.later hk10
  have hr10 := hr9.later hk10
  have hrA10 := hrA9.later hk10
  have hb10 := hb9.trans (hk10.mono (by omega))
  have hs10 := hrL9'.later hk10
  have hs10' := hr9'.later hk10
  have l10 := hX10.lt
  obtain ⟨y0, y1⟩ := hY10.cells2
  obtain ⟨z0, z1⟩ := hZ10.cells2
  clear hk10 hX9 hY9 hZ9 hr9 hrA9 hb9 hrL9' hr9' l9
  go_wp2_with fail
  refine (sameLis_any ql a5 a2 _ c5 _ c2 _ rfl rfl hrl hs10 (by omega)).mono ?_
  rintro e w11 ⟨rfl, hk11⟩
  have hX11 := hX10.later hk11
  have hY11 := hY10.later hk11
  have hZ11 := hZ10.later hk11
  have hr11 := hr10.later hk11
  have hrA11 := hrA10.later hk11
  have hb11 := hb10.trans (hk11.mono (by omega))
  have hs11' := hs10'.later hk11
  have l11 := hX11.lt
  obtain ⟨y0, y1⟩ := hY11.cells2
  obtain ⟨z0, z1⟩ := hZ11.cells2
  clear hk11 hX10 hY10 hZ10 hr10 hrA10 hb10 hs10 hs10' l10 hrl
  go_wp2_with fail
  refine (sameAds_any zl a3 a4 _ c3 c4 _ rfl hrA11 hs11' (by omega)).mono ?_
  rintro e w12 ⟨rfl, hk12⟩
  have hX12 := hX11.later hk12
  have hY12 := hY11.later hk12
  have hZ12 := hZ11.later hk12
  have hr12 := hr11.later hk12
  have hrA12 := hrA11.later hk12
  have hb12 := hb11.trans (hk12.mono (by omega))
  clear hk12 hX11 hY11 hZ11 hr11 hrA11 hb11 hs11' l11 hLu
  have l12 := hX12.lt
  have HS := Lib.hid (fun (W : World) (h : Below w12.heap.size w12 W) => sf_S (hX12.later h) (hY12.later h) (hZ12.later h) h)
  have HP1 := Lib.hid (fun (W : World) (h : Below w12.heap.size w12 W) => liPiece_any qs ql a1 c1 W (hr12.later h) hLl)
  have HP2 := Lib.hid (fun (W : World) (h : Below w12.heap.size w12 W) => advPiece_any zs zl a3 c3 W (hrA12.later h) hL2l)
  go_upto_region 10 with fail
  by_cases hE : E = 0
  · have e1 := hLp.out hE
    rw [e1] at HP1
    simp only at HP1
    subst hE
    clear hLp e1
    by_cases hG : G = 0
    · have e2 := hL2p.out hG
      rw [e2] at HP2
      simp only at HP2
      subst hG
      clear hL2p e2
      go_region_held3 (fun W => W.cell? ⟨g, 0, none⟩ = some (.int .i64 count) ∧ W.cell? ⟨g, 1, none⟩ = some (.int .i64 kind) ∧ W.cell? ⟨g, 2, none⟩ = some (.string s) ∧ W.cell? ⟨gl, 0, none⟩ = some (.int .u32 qs) ∧ W.cell? ⟨gl, 1, none⟩ = some (.slice a1 ql.length c1) ∧ W.cell? ⟨ga, 0, none⟩ = some (.int .u32 zs) ∧ W.cell? ⟨ga, 1, none⟩ = some (.slice a3 zl.length c3) ∧ Below w12.heap.size w12 W) (first | (go_keep; done) | exact HS.out _ (Below.drew (Below.refl _ _)) | exact HS.out _ (Below.trans (by go_split_ands; assumption) (Below.mono (by assumption) (Below.size (by go_split_ands; assumption))))) (first | (go_at_call 21; refine (HP1.out _ (by go_split_ands; assumption)).mono ?_; rintro e w13 ⟨rfl, hk13⟩) | (go_at_call 22; refine (HP2.out _ (by go_split_ands; assumption)).mono ?_; rintro e w14 ⟨rfl, hk14⟩))
      all_goals
        go_wp2_with fail
        go_ret
        exact ⟨rfl, by rw [HG.out]; exact hb12.trans (Below.mono (by go_split_ands; assumption) (by omega))⟩
    · have hG' : (G != 0) = true := by simpa using hG
      clear hL2p hG
      obtain ⟨_, _, _, _, _, _, _, hd⟩ := HS.out w12.drew (Below.drew (Below.refl _ _))
      go_region_law (first | (go_simp; go_at_call 21; refine (HP1.out w12.drew hd).mono ?_; rintro e w13 ⟨rfl, hk⟩; have hbw13 : Below w12.heap.size w12 w13 := hd.trans hk; obtain ⟨_, _, _, _, _, _, _, _⟩ := HS.out w13 hbw13))
      all_goals
        go_wp2_with fail
        go_ret
        exact ⟨rfl, by rw [HG.out]; exact hb12.trans (hbw13.mono (by omega))⟩
  · have hE' : (E != 0) = true := by simpa using hE
    clear hLp hE
    by_cases hG : G = 0
    · have e2 := hL2p.out hG
      rw [e2] at HP2
      simp only at HP2
      subst hG
      clear hL2p e2
      obtain ⟨_, _, _, _, _, _, _, hd⟩ := HS.out w12.drew (Below.drew (Below.refl _ _))
      go_region_law (first | (go_simp; go_at_call 22; refine (HP2.out w12.drew hd).mono ?_; rintro e w14 ⟨rfl, hk⟩; have hbw14 : Below w12.heap.size w12 w14 := hd.trans hk; obtain ⟨_, _, _, _, _, _, _, _⟩ := HS.out w14 hbw14))
      all_goals
        go_wp2_with fail
        go_ret
        exact ⟨rfl, by rw [HG.out]; exact hb12.trans (hbw14.mono (by omega))⟩
    · have hG' : (G != 0) = true := by simpa using hG
      clear hL2p hG
      go_quiet (fail)
      go_wp2_with fail
      go_ret
      exact ⟨rfl, by rw [HG.out]; exact below_drewN hb12 nq⟩
end subflowReads
end Go.Proofs.Ytjoikidnnhjogaa

