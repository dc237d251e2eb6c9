/- NackReads: the walk. -/
import Derived.Test.YtagimjaojpdfiaaNkZf
import Derived.Test.YtagimjaojpdfiaaCut
namespace Go.Proofs.Ytagimjaojpdfiaa
open Go.RowKit
set_option linter.unusedVariables false
theorem nkRdP_O {W : World} {a : Option Addr} {l : List (Int × Nat)} (h : RdP W a l) : RdO W a l := by
  rcases h with h | ⟨g, ha, _, hc⟩
  · exact .inl h
  · exact .inr ⟨g, 0, ha, fun i u hu => by rw [Nat.zero_add]; exact hc i u hu⟩
namespace nackReads
set_option maxRecDepth 100000 in
set_option maxHeartbeats 12800000 in
theorem walk (a00 a01 : Int) (s02 : ByteArray) (w00 : (Lit.int .i64 a00).wf = true) (w01 : (Lit.int .i64 a01).wf = true) (w02 : s02.size ≤ maxLen) (w : World) :
    Calls Try.prog 4 #[.agg #[.int .i64 a00, .int .i64 a01, .string s02]] w fun e w' => e = .returned (.bool true) ∧ Below w.heap.size w w' := by
  clear w00 w01
  obtain ⟨t, ht⟩ : ∃ t, cutB s02 1300 = t := ⟨_, rfl⟩
  have hts : t.size ≤ 1300 := by
    rw [← ht]; unfold cutB; split
    · rw [ByteArray.size_extract]; omega
    · omega
  have HC := Lib.hid (fun W => cut_any s02 1300 W (by unfold maxLen at w02; omega) (by decide))
  rw [ht] at HC
  clear ht w02
  have hX1 := atK_new 30 w #[.int .i64 a00, .int .i64 a01, .string s02]
  have hb1 : Below w.heap.size w (w.alloc (.cells #[.int .i64 a00, .int .i64 a01, .string s02] 30)) := (Below.refl _ _).alloc (Nat.le_refl _) _
  go_enter Try.func4, Try.ntmps4
  go_upto_region 1 with fail
  generalize (w.alloc (.cells #[.int .i64 a00, .int .i64 a01, .string s02] 30)) = w1 at hX1 hb1 ⊢
  generalize hg : w.heap.size = g at hX1 hb1 ⊢
  have HG := Lib.hid hg
  clear hg
  go_wp2_with fail
  refine (nkAwake_any _).mono ?_
  rintro e w2 ⟨rfl, hb2⟩
  have hX2 := hX1.later hb2
  have hbb2 := hb1.trans (hb2.mono (Nat.le_of_lt hX1.lt))
  clear hX1 hb1 hb2
  obtain ⟨x0, x1, x2⟩ := hX2.cells3
  have f2 := hX2.free 2
  go_upto_region 3 with fail
  go_wp2_with fail
  refine (HC.out _).mono ?_
  rintro e w' ⟨rfl, rfl⟩
  have hX3 : AtK 30 (w2.setCell ⟨g, 2, none⟩ (.string t)) g #[.int .i64 a00, .int .i64 a01, .string t] := block_setCell hX2
  have hb3 := hbb2.setCell (p := ⟨g, 2, none⟩) (Nat.le_refl _) (.string t)
  go_upto_region 4 with fail
  generalize w2.setCell ⟨g, 2, none⟩ (.string t) = w3 at hX3 hb3 ⊢
  clear hX2 hbb2 x0 x1 x2 f2 HC
  obtain ⟨x0, x1, x2⟩ := hX3.cells3
  have HO := Lib.hid (fun W => nkOf_any ⟨a00, a01, t⟩ W (by show t.size ≤ _; omega))
  have HR := Lib.hid (fun W => nkRefOf_any ⟨a00, a01, t⟩ W (by show t.size ≤ _; omega))
  have hwf := nkWf ⟨a00, a01, t⟩
  have hln := nkPs_len ⟨a00, a01, t⟩
  have hF := nkF_rng ⟨a00, a01, t⟩
  have hA := nkA_rng ⟨a00, a01, t⟩
  have HBK := Lib.hid (fun h => nkPc_back (p := ⟨a00, a01, t⟩) h)
  unfold NkOfd at HO
  unfold NkRefd at HR
  clear hts
  generalize nkF ⟨a00, a01, t⟩ = F at *
  generalize nkA ⟨a00, a01, t⟩ = A at *
  generalize nkPs ⟨a00, a01, t⟩ = l at *
  generalize nkE ⟨a00, a01, t⟩ = E at *
  simp only at HO HR
  go_wp2_with fail
  refine (HO.out _).mono ?_
  rintro e w4 ⟨a4, c4, rfl, hc4, hr4, hb4⟩
  have hX5 := (hX3.later hb4).alloc (.cells #[.int .u32 F, .int .u32 A, .slice a4 l.length c4] 25)
  have hN5 := atK_new 25 w4 #[.int .u32 F, .int .u32 A, .slice a4 l.length c4]
  have hr5 := hr4.later ((Below.refl _ w4).alloc (Nat.le_refl _) (.cells #[.int .u32 F, .int .u32 A, .slice a4 l.length c4] 25))
  have hb5 := (hb3.trans (hb4.mono (Nat.le_of_lt hX3.lt))).alloc (by have := (hX3.later hb4).lt; omega) (.cells #[.int .u32 F, .int .u32 A, .slice a4 l.length c4] 25)
  go_upto_region 5 with fail
  generalize w4.alloc (.cells #[.int .u32 F, .int .u32 A, .slice a4 l.length c4] 25) = w5 at hX5 hN5 hr5 hb5 ⊢
  generalize w4.heap.size = gn at hN5 ⊢
  clear hX3 hb3 hb4 hr4 HO x0 x1 x2
  obtain ⟨x0, x1, x2⟩ := hX5.cells3
  go_wp2_with fail
  refine (HR.out _).mono ?_
  rintro e w6 ⟨a6, c6, rfl, hc6, hr6, hb6⟩
  have hX6 := hX5.later hb6
  have hN6 := hN5.later hb6
  have hr56 := hr5.later hb6
  have hbb6 := hb5.trans (hb6.mono (by have := hX5.lt; omega))
  clear hX5 hN5 hr5 hb5 hb6 HR x0 x1 x2
  have HX := Lib.hid (fun (W : World) (h : Below w6.heap.size w6 W) => (hX6.later h).cells3)
  have HN := Lib.hid (fun (W : World) (h : Below w6.heap.size w6 W) => (hN6.later h).cells3)
  have HT := Lib.hid (fun (W : World) (h : Below w6.heap.size w6 W) => nkTold_any l a4 c4 W (hr56.later h) (by omega) hwf)
  have HP := Lib.hid (fun (W : World) (h : Below w6.heap.size w6 W) => nkPiece_any F A l a4 c4 W (nkRdP_O (hr56.later h)) (by omega) hwf)
  have HS := Lib.hid (fun (W : World) (q : Option Addr) (k : Nat) (h : Below w6.heap.size w6 W) (h1 : RdR W q l) (i1 : l.length ≤ k) => sameP_any l q a6 k c6 W h1 (hr6.later h) (by omega) i1 hc6)
  have hd6 : Below w6.heap.size w6 w6.drew := by go_grown
  have hgw : g ≤ w6.heap.size := Nat.le_of_lt hX6.lt
  have hFw : IntKind.i64.wrap F = F := IntWalk.i64_in _ ⟨by omega, by omega⟩
  have hAw : IntKind.i64.wrap A = A := IntWalk.i64_in _ ⟨by omega, by omega⟩
  obtain ⟨_, _, _⟩ := HX.out w6 (Below.refl _ _)
  obtain ⟨_, _, _⟩ := HN.out w6 (Below.refl _ _)
  obtain ⟨_, _, _⟩ := HX.out _ hd6
  obtain ⟨_, _, _⟩ := HN.out _ hd6
  clear hX6 hN6 hwf hF hA
  go_upto_region 6 with fail
  by_cases hE : E = 0
  · subst hE
    have hB := HBK.out rfl
    rw [hB] at HP
    simp only at HP
    clear hB HBK
    go_region_law (first
      | (go_simp; go_at_call 14; refine (HT.out _ hd6).mono ?_; rintro e w7 ⟨v7, rfl, hrow7, hb7⟩; obtain ⟨a7, c7, rfl, hc7, hr7⟩ := own_prR hrow7; have hh7 := hd6.trans (hb7.mono hd6.size); clear hrow7; obtain ⟨_, _, _⟩ := HX.out _ hh7; obtain ⟨_, _, _⟩ := HN.out _ hh7)
      | (go_simp; go_at_call 16; refine (HS.out w7 _ _ hh7 hr7 hc7).mono ?_; rintro e w8 ⟨rfl, hb8⟩; have hh8 := hh7.trans (hb8.mono hh7.size); obtain ⟨_, _, _⟩ := HX.out _ hh8; obtain ⟨_, _, _⟩ := HN.out _ hh8)
      | (go_simp; go_at_call 12; refine (HP.out w8 hh8).mono ?_; rintro e w9 ⟨rfl, hb9⟩; have hh9 := hh8.trans (hb9.mono hh8.size); obtain ⟨_, _, _⟩ := HX.out _ hh9; obtain ⟨_, _, _⟩ := HN.out _ hh9))
    all_goals
      go_wp2_with fail
      go_ret
      exact ⟨rfl, by rw [HG.out]; exact hbb6.trans (hh9.mono hgw)⟩
  · have hEb : (E != 0) = true := by simp [hE]
    clear HBK HP hE
    first | go_region_law (first
      | (go_simp; go_at_call 14; refine (HT.out _ hd6).mono ?_; rintro e w7 ⟨v7, rfl, hrow7, hb7⟩; obtain ⟨a7, c7, rfl, hc7, hr7⟩ := own_prR hrow7; have hh7 := hd6.trans (hb7.mono hd6.size); clear hrow7; obtain ⟨_, _, _⟩ := HX.out _ hh7; obtain ⟨_, _, _⟩ := HN.out _ hh7)
      | (go_simp; go_at_call 16; refine (HS.out w7 _ _ hh7 hr7 hc7).mono ?_; rintro e w8 ⟨rfl, hb8⟩; have hh8 := hh7.trans (hb8.mono hh7.size); obtain ⟨_, _, _⟩ := HX.out _ hh8; obtain ⟨_, _, _⟩ := HN.out _ hh8)) | fail "region"
    all_goals
      go_wp2_with fail
      go_ret
      exact ⟨rfl, by rw [HG.out]; exact hbb6.trans (hh8.mono hgw)⟩
end nackReads
end Go.Proofs.Ytagimjaojpdfiaa
