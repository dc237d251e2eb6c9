/- NackBack: the walk. -/
import Derived.Test.YtagimjaojpdfiaaNkZe
import Derived.Test.YtagimjaojpdfiaaNkNumW
import Derived.Test.YtagimjaojpdfiaaNkS
namespace Go.Proofs.Ytagimjaojpdfiaa
open Go.RowKit
set_option linter.unusedVariables false
namespace nackBack
set_option maxRecDepth 100000 in
set_option maxHeartbeats 6400000 in
theorem walk (f b : Int) (l : List (Int × Nat)) (a : Option Addr) (c : Nat) (hf : 0 ≤ f ∧ f ≤ 4294967295) (hbb : 0 ≤ b ∧ b ≤ 4294967295) (hb : ∀ p ∈ l, 0 ≤ p.1 ∧ p.1 < 65536 ∧ p.2 < 65536) (hlc : l.length ≤ c) (hcm : c ≤ 9223372036854775807) (ha : (a = none ∧ l.length = 0 ∧ c = 0) ∨ ∃ g off, a = some ⟨g, off, none⟩) (w : World) (hr : RdO w a l) :
    Calls Try.prog 3 #[.agg #[.int .u32 f, .int .u32 b, .slice a l.length c]] w fun e w' => e = .returned (.bool true) ∧ Below w.heap.size w w' := by
  obtain ⟨i0, hi, hz0, hz1, hz2⟩ := info_parts infoPair
  obtain ⟨m, hm⟩ : ∃ m : Nat, min (l.length : Int) 302 = (m : Int) := ⟨(min (l.length : Int) 302).toNat, by omega⟩
  have hml : (l.take 302).length = m := by rw [List.length_take]; omega
  have hm302 : m ≤ 302 := by omega
  have hmle : m ≤ l.length := by omega
  have htk : l.take 302 = l.take m := by
    rcases Nat.lt_or_ge l.length 302 with h | h
    · rw [List.take_of_length_le (by omega), List.take_of_length_le (by omega)]
    · rw [show m = 302 from by omega]
  have HT := Lib.hid htk
  have HML := Lib.hid hml
  have HB := Lib.hid (fun p (hp : p ∈ l.take 302) => hb p (List.mem_of_mem_take hp))
  clear htk hml hb
  have hX1 := heap_alloc_new w (.cells #[.int .u32 f, .int .u32 b, .slice a l.length c] 25)
  have hb1 : Below w.heap.size w (w.alloc (.cells #[.int .u32 f, .int .u32 b, .slice a l.length c] 25)) := (Below.refl _ _).alloc (Nat.le_refl _) _
  have HR := Lib.hid (fun W (h : Below w.heap.size w W) => hr.later h)
  clear hr
  go_enter Try.func3, Try.ntmps3
  go_upto_region 1 with fail
  generalize w.alloc (.cells #[.int .u32 f, .int .u32 b, .slice a l.length c] 25) = w3 at hX1 hb1 ⊢
  obtain ⟨g, hg⟩ : ∃ g, w.heap.size = g := ⟨_, rfl⟩
  have HG := Lib.hid hg
  rw [hg] at hX1 hb1 HR ⊢
  clear hg
  have hg3 := lt_of_block hX1
  go_wp2_with fail
  refine (nkAwake_any _).mono ?_
  rintro e w4 ⟨rfl, hb4⟩
  have hX4 : w4.heap[g]? = some (Obj.cells #[.int .u32 f, .int .u32 b, .slice a l.length c] 25 (0, 0)) := by rw [hb4.block g hg3]; exact hX1
  have hbb4 := hb1.trans (hb4.mono (by omega))
  clear hX1 hb1 hb4 hg3
  have hg4 := lt_of_block hX4
  go_upto_region 3 with fail
  go_cut [] (fun wx => ∃ a' c', wx.heap[g]? = some (Obj.cells #[.int .u32 f, .int .u32 b, .slice a' m c'] 25 (0, 0)) ∧ m ≤ c' ∧ RdP wx a' (l.take 302) ∧ Below g w wx)
  case first =>
    have hA0 : (w4.alloc (.cells #[] 131)).heap[w4.heap.size]? = some (Obj.cells #[] 131 (0, 0)) := heap_alloc_new _ _
    have hv0 := own_made0 (s := 2) (B := g) (by omega) hA0
    have hX5 := heap_at_old w4 (.cells #[] 131) _ _ hX4
    have hb5 := hbb4.alloc (by omega) (.cells #[] 131)
    have x2 : w4.cell? ⟨g, 2, none⟩ = some (.slice a l.length c) := by have := cell_of_row _ _ 2 _ _ (0, 0) hX4; exact this
    have y2 : (w4.alloc (.cells #[] 131)).cell? ⟨g, 2, none⟩ = some (.slice a l.length c) := by have := cell_of_row _ _ 2 _ _ (0, 0) hX5; exact this
    clear hA0
    rcases ha with ⟨rfl, hl0, rfl⟩ | ⟨b0, off, rfl⟩
    · obtain rfl : l = [] := List.length_eq_zero_iff.1 hl0
      obtain rfl : m = 0 := by simp at hmle; exact hmle
      simp only [List.length_nil] at *
      have hmm : min (0 : Int) 302 = 0 := by decide
      go_wp2_with (at_builtin; refine nkAppend_none rfl (.tmp 8) (.tmp 15) 23 rfl g 131 i0 2 Try.underlying23 hi _ [] rfl hv0 rfl ?_)
      intro w6 ad6 Hw
      have hX6 : w6.heap[g]? = some (Obj.cells #[.int .u32 f, .int .u32 b, .slice none 0 0] 25 (0, 0)) := by rw [Hw.out.1]; exact hX5
      have hb6 : Below g w w6 := by rw [Hw.out.1]; exact hb5
      clear hv0 hX5 hb5 Hw x2 y2 hX4 hbb4
      have x2 : w6.cell? ⟨g, 2, none⟩ = some (.slice none 0 0) := by have := cell_of_row _ _ 2 _ _ (0, 0) hX6; exact this
      have f2 : w6.frozen? ⟨g, 2, none⟩ = false := by simp [World.frozen?, hX6]
      have hX7 : (w6.setCell ⟨g, 2, none⟩ (.slice ad6 0 0)).heap[g]? = some (Obj.cells #[.int .u32 f, .int .u32 b, .slice ad6 0 0] 25 (0, 0)) := block_setCell hX6
      have hb7 := hb6.setCell (p := ⟨g, 2, none⟩) (Nat.le_refl _) (.slice ad6 0 0)
      go_wp2_with fail
      go_meet
      exact ⟨ad6, 0, hX7, Nat.le_refl _, .inl rfl, hb7⟩
    · have hpm : (0 : Int) ≤ (m : Int) := by omega
      have hpm2 : (m : Int) ≤ (c : Int) := by omega
      have hnews : ∀ k u, (prV (l.take m))[k]? = some u → (w4.alloc (.cells #[] 131)).cell? ((⟨b0, off, none⟩ : Addr).add k) = some u := by
        intro k u hk
        rcases HR.out _ hb5 with h | ⟨b', off', ha, hc⟩
        · subst h; simp [prV] at hk
        · cases ha
          rw [Go.WideShapes.add_plain]
          exact hc k u (prV_take l m k u hk)
      have hnl : (prV (l.take m)).length = m * 2 := by rw [prV_len, List.length_take, Nat.min_eq_left hmle]
      have hone := prV_one (l.take m)
      go_wp2_with (at_builtin; refine wpList_append_own _ rfl (.tmp 8) (.tmp 15) 23 rfl g 131 i0 (.agg #[.int .u16 0, .int .u16 0]) 2 4 Try.underlying23 hi hz0 hz1 hz2 rfl (by decide) _ 0 [] rfl hv0 ⟨b0, off, none⟩ m c (prV (l.take m)) rfl hnl hnews hone ?d4 ?d5 ?d6 ?_)
      case d4 => unfold maxLen; omega
      case d5 => omega
      case d6 => simp; omega
      intro v' w6 hown hgrow _
      have hown2 : w6.ownsRow g 131 2 v' m (prV (l.take 302)) := by
        rw [HT.out]
        simpa using hown
      have hX6 := keep_blk hX5 hv0 (by decide) hgrow
      have hb6 : Below g w w6 := hb5.grown hgrow (by have := lt_of_block hX5; omega) (fun k hk => (hv0.lt k hk).1)
      clear hv0 hX5 hb5 hown hgrow hnews hnl hone x2 y2 hX4 hbb4
      have hne : some g ≠ v'.ownBlock := by
        intro e
        rcases hown2.2 with ⟨rfl, _⟩ | ⟨g', cap', cur', rfl, _, r2, _⟩
        · simp [Value.ownBlock] at e
        · obtain rfl : g = g' := by simpa [Value.ownBlock] using e
          rw [hX6] at r2
          simp at r2
      have hown3 := fun u => row_setn hown2 hne 2 u
      have hv : ∃ a' c', v' = .slice a' m c' ∧ m ≤ c' := by
        have h := hown2
        rw [show m = (l.take 302).length from HML.out.symm] at h
        obtain ⟨a', c', e, h2, _⟩ := own_prs h
        exact ⟨a', c', by rw [e, HML.out], by rw [← HML.out]; exact h2⟩
      obtain ⟨a', c', rfl, hcc⟩ := hv
      have x2 : w6.cell? ⟨g, 2, none⟩ = some (.slice (some ⟨b0, off, none⟩) l.length c) := by have := cell_of_row _ _ 2 _ _ (0, 0) hX6; exact this
      have f2 : w6.frozen? ⟨g, 2, none⟩ = false := by simp [World.frozen?, hX6]
      have hX7 : (w6.setCell ⟨g, 2, none⟩ (.slice a' m c')).heap[g]? = some (Obj.cells #[.int .u32 f, .int .u32 b, .slice a' m c'] 25 (0, 0)) := block_setCell hX6
      have hb7 := hb6.setCell (p := ⟨g, 2, none⟩) (Nat.le_refl _) (.slice a' m c')
      have hO7 : RdP (w6.setCell ⟨g, 2, none⟩ (.slice a' m c')) a' (l.take 302) := by
        have h := hown3 (.slice a' m c')
        rw [show m = (l.take 302).length from HML.out.symm] at h
        obtain ⟨a8, c8, e8, _, h3⟩ := own_prs h
        cases e8
        rw [HML.out] at h3
        exact h3
      clear hown2 hown3 hne
      go_wp2_with fail
      go_meet
      exact ⟨a', c', hX7, hcc, hO7, hb7⟩
  case rest =>
  obtain ⟨a', c', hX5, hcc, hR5, hb5⟩ := hcut
  rename World => w5
  clear hX4 hbb4 hg4 HR ha hlc hcm hm hmle HT hi hz0 hz1 hz2
  obtain ⟨lm, hlm⟩ : ∃ lm, l.take 302 = lm := ⟨_, rfl⟩
  rw [hlm] at hR5 HB HML
  have hml := HML.out
  clear HML hlm
  subst hml
  have hX5 : AtK 25 w5 g #[.int .u32 f, .int .u32 b, .slice a' lm.length c'] := hX5
  have hg5 : g ≤ w5.heap.size := Nat.le_of_lt hX5.lt
  have HRd := Lib.hid (fun (W : World) (h : Below w5.heap.size w5 W) => hR5.later h)
  have HP := Lib.hid (nkPiece_any f b lm a' c' w5 hR5.toO (by omega) HB.out)
  obtain ⟨x0, x1, x2⟩ := hX5.cells3
  obtain ⟨p, hp⟩ : ∃ p, nkPc f b lm = p := ⟨_, rfl⟩
  rw [hp] at HP
  obtain ⟨pc, pk, ps⟩ := p
  simp only at HP
  go_wp2_with fail
  refine HP.out.mono ?_
  rintro e w6 ⟨rfl, hb6⟩
  have hX6 := (hX5.later hb6).alloc (.cells #[.int .i64 pc, .int .i64 pk, .string ps] 28)
  have hbb6 : Below w5.heap.size w5 (w6.alloc (.cells #[.int .i64 pc, .int .i64 pk, .string ps] 28)) := hb6.alloc hb6.size _
  have hY6 := atK_new 28 w6 #[.int .i64 pc, .int .i64 pk, .string ps]
  have hgw : g ≠ w6.heap.size := by have := (hX5.later hb6).lt; omega
  go_upto_region 5 with fail
  generalize w6.alloc (.cells #[.int .i64 pc, .int .i64 pk, .string ps] 28) = w7 at hX6 hbb6 hY6 ⊢
  generalize w6.heap.size = gp at hY6 hgw ⊢
  clear hb6 HP x0 x1 x2
  have HX := Lib.hid (fun (W : World) (h : Below w7.heap.size w7 W) => (hX6.later h).cells3)
  have HY := Lib.hid (fun (W : World) (h : Below w7.heap.size w7 W) => (hY6.later h).cells3)
  have HRd7 := Lib.hid (fun (W : World) (h : Below w7.heap.size w7 W) => HRd.out W (hbb6.trans (h.mono hbb6.size)))
  have HT := Lib.hid (fun (W : World) (h : Below w7.heap.size w7 W) => nkTold_any lm a' c' W (HRd7.out W h) (by omega) HB.out)
  have HRP := Lib.hid (fun (W : World) (q : Option Addr) (cq : Nat) (hq : RdR W q lm) => nkRefPiece_any f b lm q cq W hq (by omega) HB.out hf.1 hf.2 hbb.1 hbb.2)
  rw [hp] at HRP
  have hfw : IntKind.i64.wrap f = f := IntWalk.i64_in _ ⟨by omega, by omega⟩
  have hbw : IntKind.i64.wrap b = b := IntWalk.i64_in _ ⟨by omega, by omega⟩
  have hd7 : Below w7.heap.size w7 w7.drew := by go_grown
  obtain ⟨_, _, _⟩ := HX.out w7 (Below.refl _ _)
  obtain ⟨_, _, _⟩ := HY.out w7 (Below.refl _ _)
  obtain ⟨_, _, _⟩ := HX.out _ hd7
  obtain ⟨_, _, _⟩ := HY.out _ hd7
  simp only at HRP
  go_cut [31] (fun z wx => z = .bool false ∧ Below w7.heap.size w7 wx)
  case first =>
    go_region_law (first
      | (go_simp; go_at_call 14; refine (HT.out _ hd7).mono ?_; rintro e w8 ⟨v8, rfl, hrow8, hb8⟩; obtain ⟨a8, c8, rfl, _, hr8⟩ := own_prR hrow8; have hh8 := hd7.trans (hb8.mono hd7.size); clear hrow8; obtain ⟨_, _, _⟩ := HX.out _ hh8; obtain ⟨_, _, _⟩ := HY.out _ hh8)
      | (go_simp; go_at_call 13; refine (HRP.out _ _ _ hr8).mono ?_; rintro e w9 ⟨rfl, hb9⟩; have hh9 := hh8.trans (hb9.mono hh8.size); obtain ⟨_, _, _⟩ := HX.out _ hh9; obtain ⟨_, _, _⟩ := HY.out _ hh9))
    all_goals
      go_wp2_with fail
      go_meet
      exact ⟨rfl, hh9⟩
  case rest =>
  obtain ⟨rfl, hb8⟩ := hcut
  rename World => w8
  have hX8 := hX6.later hb8
  have hY8 := hY6.later hb8
  have hbb8 := hbb6.trans (hb8.mono hbb6.size)
  have HRd8 := Lib.hid (fun (W : World) (h : Below w8.heap.size w8 W) => HRd.out W (hbb8.trans (h.mono hbb8.size)))
  clear HX HY HRd7 HT HRP HRd hX6 hY6 hbb6 hd7
  obtain ⟨_, _, _⟩ := hX8.cells3
  obtain ⟨_, _, _⟩ := hY8.cells3
  by_cases hsome : 1 ≤ lm.length ∧ lm.length ≤ 300
  case neg =>
    have hz : (pc, pk, ps) = ((0 : Int), (0 : Int), ({ data := #[] } : ByteArray)) := by
      have h := hp
      unfold nkPc at h
      rw [if_neg hsome] at h
      cases h
      rfl
    cases hz
    clear hp HB
    generalize lm.length = n at *
    by_cases hn0 : n = 0
    · subst hn0
      go_wp2_with fail
      go_ret
      exact ⟨rfl, by rw [HG.out]; exact hb5.trans (hbb8.mono hg5)⟩
    · have hn3 : 300 < n := by omega
      have hb0 : ((n : Int) == 0) = false := by rw [beq_eq_false_iff_ne]; omega
      go_wp2_with fail
      go_ret
      exact ⟨by simp; omega, by rw [HG.out]; exact hb5.trans (hbb8.mono hg5)⟩
  obtain ⟨hs1, hs2⟩ := hsome
  have hfo := nk_forth f b lm hf hbb HB.out hs1 hs2
  rw [hp] at hfo
  obtain ⟨e0, e1, e2, e3, e4⟩ := hfo
  have hq : pc = 1 ∧ pk = 205 := by
    have h := hp
    unfold nkPc at h
    rw [if_pos ⟨hs1, hs2⟩] at h
    simp only [PC.mk.injEq] at h
    exact ⟨h.1.symm, h.2.1.symm⟩
  obtain ⟨rfl, rfl⟩ := hq
  have HO : Hid (∀ W : World, Calls Try.prog 15 #[.agg #[.int .i64 1, .int .i64 205, .string ps]] W fun e w' => ∃ a c, e = .returned (.tuple #[.agg #[.int .u32 f, .int .u32 b, .slice a lm.length c], .int .i64 0]) ∧ lm.length ≤ c ∧ RdP w' a lm ∧ Below W.heap.size W w') :=
    Lib.hid fun W => (nkOf_any ⟨1, 205, ps⟩ W (by simp only at e4 ⊢; omega)).mono fun e w' h => by
      unfold NkOfd at h
      rw [e0, e1, e2, e3] at h
      exact h
  clear e0 e1 e2 e3 e4 hp
  go_wp2_with fail
  refine (HO.out _).mono ?_
  rintro e w9 ⟨a9, c9, rfl, hc9, hr9, hb9⟩
  have hX10 := (hX8.later hb9).alloc (.cells #[.int .u32 f, .int .u32 b, .slice a9 lm.length c9] 25)
  have hM10 := atK_new 25 w9 #[.int .u32 f, .int .u32 b, .slice a9 lm.length c9]
  have hr10 := hr9.later ((Below.refl _ w9).alloc (Nat.le_refl _) (.cells #[.int .u32 f, .int .u32 b, .slice a9 lm.length c9] 25))
  have hb10 := hb9.alloc hb9.size (.cells #[.int .u32 f, .int .u32 b, .slice a9 lm.length c9] 25)
  go_upto_region 10 with fail
  generalize w9.alloc (.cells #[.int .u32 f, .int .u32 b, .slice a9 lm.length c9] 25) = w10 at hX10 hM10 hr10 hb10 ⊢
  generalize w9.heap.size = gm at hM10 ⊢
  have hbb10 := hbb8.trans (hb10.mono hbb8.size)
  have HX := Lib.hid (fun (W : World) (h : Below w10.heap.size w10 W) => (hX10.later h).cells3)
  have HM := Lib.hid (fun (W : World) (h : Below w10.heap.size w10 W) => (hM10.later h).cells3)
  have HTm := Lib.hid (fun (W : World) (h : Below w10.heap.size w10 W) => nkTold_any lm a9 c9 W (hr10.later h) (by omega) HB.out)
  have HTn := Lib.hid (fun (W : World) (h : Below w10.heap.size w10 W) => nkTold_any lm a' c' W (HRd8.out W (hb10.trans (h.mono hb10.size))) (by omega) HB.out)
  have HSM := Lib.hid (fun (W : World) (q1 q2 : Option Addr) (k1 k2 : Nat) (h1 : RdR W q1 lm) (h2 : RdR W q2 lm) (i1 : lm.length ≤ k1) (i2 : lm.length ≤ k2) => sameP_any lm q1 q2 k1 k2 W h1 h2 (by omega) i1 i2)
  have hd10 : Below w10.heap.size w10 w10.drew := by go_grown
  clear hX8 hY8 hb9 hr9 HO hr10 hX10 hM10
  obtain ⟨_, _, _⟩ := HX.out w10 (Below.refl _ _)
  obtain ⟨_, _, _⟩ := HM.out w10 (Below.refl _ _)
  obtain ⟨_, _, _⟩ := HX.out _ hd10
  obtain ⟨_, _, _⟩ := HM.out _ hd10
  go_region_law (first
    | (go_simp; go_at_call_of 14 (Value.slice a9 lm.length c9); refine (HTm.out _ hd10).mono ?_; rintro e w11 ⟨v11, rfl, hrow11, hb11⟩; obtain ⟨a11, c11, rfl, hc11, hr11⟩ := own_prR hrow11; have hh11 := hd10.trans (hb11.mono hd10.size); clear hrow11; obtain ⟨_, _, _⟩ := HX.out _ hh11; obtain ⟨_, _, _⟩ := HM.out _ hh11)
    | (go_simp; go_at_call 14; refine (HTn.out w11 hh11).mono ?_; rintro e w12 ⟨v12, rfl, hrow12, hb12⟩; obtain ⟨a12, c12, rfl, hc12, hr12⟩ := own_prR hrow12; have hh12 := hh11.trans (hb12.mono hh11.size); have hr112 := hr11.later hb12; clear hrow12; obtain ⟨_, _, _⟩ := HX.out _ hh12; obtain ⟨_, _, _⟩ := HM.out _ hh12)
    | (go_simp; go_at_call 16; refine (HSM.out _ _ _ _ _ hr112 hr12 hc11 hc12).mono ?_; rintro e w13 ⟨rfl, hb13⟩; have hh13 := hh12.trans (hb13.mono hh12.size)))
  all_goals
    go_wp2_with fail
    go_ret
    exact ⟨rfl, by rw [HG.out]; exact hb5.trans ((hbb10.trans (hh13.mono hbb10.size)).mono hg5)⟩
end nackBack
end Go.Proofs.Ytagimjaojpdfiaa
