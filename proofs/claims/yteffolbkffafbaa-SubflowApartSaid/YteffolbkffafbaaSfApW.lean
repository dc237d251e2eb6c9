/- SubflowApart: the walk. -/
import Derived.Test.YteffolbkffafbaaSfQ
import Derived.Test.YteffolbkffafbaaSfN
import Derived.Test.YteffolbkffafbaaSfO
import Derived.Test.YteffolbkffafbaaRtpK
namespace Go.Proofs.Yteffolbkffafbaa.subflowApart
open Go.RowKit
set_option linter.unusedVariables false
theorem lsP_small (q : LS) : (lsP q).body.size ≤ 4 + 28 * q.all.length := by
  unfold lsP lqP
  split
  · unfold zeroPC; simp only; exact Nat.zero_le _
  · split
    · simp only [ofL_size, List.length_append, be_len, lisL_len]; omega
    · unfold zeroPC; simp only; exact Nat.zero_le _
theorem asP_kind (a : AS) : (asP a).kind = 211 ∧ (asP a).count = 2 ∨ asP a = zeroPC := by
  unfold asP
  split
  · exact .inl ⟨rfl, rfl⟩
  · exact .inr rfl
set_option maxRecDepth 100000 in
set_option maxHeartbeats 6400000 in
theorem walk (lsrc : Int) (pp : Option Addr) (ln cp : Nat) (src : Int) (pp2 : Option Addr) (ln2 cp2 : Nat) (w0 : (Lit.int .u32 lsrc).wf = true) (w1 : (Lit.int .u32 src).wf = true) (w : World) (r1 : Recs [isNum .i64, isNum .i64, isNum .i64, isNum .u32, isNum .u32, isNum .u32, isNum .u32, isNum .u32] w pp ln) (l1 : ln ≤ cp) (l2 : cp ≤ 9223372036854775807) (hac : (pp = none ∧ ln = 0 ∧ cp = 0) ∨ ∃ y, pp = some y) (r2 : Recs [isNum .i64, isBool, isNum .i64] w pp2 ln2) (l3 : ln2 ≤ 9223372036854775807) :
    Calls Try.prog 13 #[.agg #[.int .u32 lsrc, .slice pp ln cp], .int .u32 src, .slice pp2 ln2 cp2] w fun e w' => e = .returned (.bool true) ∧ Below w.heap.size w w' := by
  obtain ⟨i0, hi, hz0, hz1, hz2⟩ := info_parts infoLi
  obtain ⟨el, hel, hrl⟩ := recs_lis r1
  obtain ⟨ea, hea, hra⟩ := recs_ads r2
  clear r1 r2 w0 w1
  obtain ⟨m, hm⟩ : ∃ m : Nat, min (ln : Int) 15 = (m : Int) := ⟨(min (ln : Int) 15).toNat, by omega⟩
  have hm15 : m ≤ 15 := by omega
  have hmc : (m : Int) ≤ (cp : Int) := by omega
  have hm0 : (0 : Int) ≤ (m : Int) := by omega
  have hmle : m ≤ el.length := by omega
  have hzl : (el.take m).length = m := by rw [List.length_take]; omega
  have HRL := Lib.hid (fun W (h : Below w.heap.size w W) => hrl.later h)
  have HRA := Lib.hid (fun W (h : Below w.heap.size w W) => hra.later h)
  have HEA := Lib.hid hea
  clear hrl hra hea
  have hX1 := atC_new 97 w #[.int .u32 lsrc, .slice pp ln cp]
  have hb1 : Below w.heap.size w (w.alloc (.cells #[.int .u32 lsrc, .slice pp ln cp] 97)) := (Below.refl _ _).alloc (Nat.le_refl _) _
  go_enter Try.func13, Try.ntmps13
  go_upto_region 1 with fail
  generalize w.alloc (.cells #[.int .u32 lsrc, .slice pp ln cp] 97) = w3 at hX1 hb1 ⊢
  obtain ⟨g, hg⟩ : ∃ g, w.heap.size = g := ⟨_, rfl⟩
  have HG := Lib.hid hg
  rw [hg] at hX1 hb1 HRL HRA ⊢
  clear hg
  go_wp2_with fail
  refine (sfAwake_any _).mono ?_
  rintro e w4 ⟨rfl, hb4⟩
  have hX4 := hX1.later hb4
  have hbb4 := hb1.trans (hb4.mono (by have := hX1.lt; omega))
  clear hX1 hb1 hb4
  have hg4 := hX4.lt
  go_upto_region 3 with fail
  go_cut [13] (fun z wx => ∃ a' c', AtC 97 wx g #[.int .u32 lsrc, .slice a' m c'] ∧ wx.ownsRow g 176 8 (.slice a' m c') m (lisV (el.take m)) ∧ Below g w wx)
  case first =>
    have hv0 : (w4.alloc (.cells #[] 176)).ownsRow g 176 8 (.slice (some ⟨w4.heap.size, 0, none⟩) 0 0) 0 [] := World.ownsRow_made _ _ _ (by omega) (by decide) rfl
    have hX5 := hX4.alloc (.cells #[] 176)
    have hb5 := hbb4.alloc (by omega) (.cells #[] 176)
    obtain ⟨x0, x1⟩ := hX4.cells2
    rcases hac with ⟨rfl, rfl, rfl⟩ | ⟨y, rfl⟩
    · obtain rfl : m = 0 := by omega
      have hmm : min (0 : Int) 15 = 0 := by decide
      clear hm hmc hm0
      go_wp2_with (at_builtin; refine append_none_stop rfl (.tmp 15) (.tmp 22) 95 rfl g 176 i0 8 Try.underlying95 hi _ [] rfl hv0 rfl ?_)
      intro w6 ad6 Hw
      have hX6 : AtC 97 w6 g #[.int .u32 lsrc, .slice none 0 0] := by rw [Hw.out.1]; exact hX5
      have hb6 : Below g w w6 := by rw [Hw.out.1]; exact hb5
      have hv6 : w6.ownsRow g 176 8 (.slice ad6 0 0) 0 [] := by rw [Hw.out.1, Hw.out.2]; exact hv0
      clear hv0 hX5 hb5 Hw x0 x1 hX4 hbb4
      obtain ⟨x0, x1⟩ := hX6.cells2
      have f1 := hX6.free 1
      have hX7 : AtC 97 (w6.setCell ⟨g, 1, none⟩ (.slice ad6 0 0)) g #[.int .u32 lsrc, .slice ad6 0 0] := block_setCell hX6
      have hv7 := ownS_store (i := 1) (u := .slice ad6 0 0) hv6 hX6 (by decide)
      have hb7 := hb6.setCell (p := ⟨g, 1, none⟩) (Nat.le_refl _) (.slice ad6 0 0)
      go_wp2_with fail
      go_meet
      exact ⟨ad6, 0, hX7, hv7, hb7⟩
    · have hnews : ∀ k u, (lisV (el.take m))[k]? = some u → (w4.alloc (.cells #[] 176)).cell? (y.add k) = some u := by
        intro k u hk
        rcases HRL.out _ hb5 with h | ⟨b', off', ha, hc⟩
        · subst h; simp [lisV] at hk
        · cases ha
          rw [Go.WideShapes.add_plain]
          exact readsL_news hc m hmle k u hk
      have hnl : (lisV (el.take m)).length = m * 8 := by rw [lisV_len, hzl]
      have hone := lisV_one (el.take m)
      go_wp2_with (at_builtin; refine wpList_append_own _ rfl (.tmp 15) (.tmp 22) 95 rfl g 176 i0 (.agg #[.int .i64 0, .int .i64 0, .int .i64 0, .int .u32 0, .int .u32 0, .int .u32 0, .int .u32 0, .int .u32 0]) 8 48 Try.underlying95 hi hz0 hz1 hz2 rfl (by decide) _ 0 [] rfl hv0 y m cp (lisV (el.take m)) rfl hnl hnews hone ?d4 ?d5 ?d6 ?_)
      case d4 => unfold maxLen; omega
      case d5 => omega
      case d6 => simp; omega
      intro v' w6 hown hgrow _
      have hown2 : w6.ownsRow g 176 8 v' m (lisV (el.take m)) := by
        first | exact hown | (have h := hown; simp only [Nat.zero_add, List.nil_append] at h; exact h)
      obtain ⟨a', c', rfl⟩ : ∃ a' c', v' = .slice a' m c' := by
        rcases hown2.2 with ⟨e1, e2⟩ | ⟨g', cap, cur, rfl, _⟩
        · exact ⟨none, 0, by rw [e1, e2]⟩
        · exact ⟨_, _, rfl⟩
      have hX6 := hX5.grown hv0 hgrow (by decide)
      have hb6 : Below g w w6 := hb5.grown hgrow (by have := hX5.lt; omega) (fun k hk => (hv0.lt k hk).1)
      clear hv0 hX5 hb5 hown hgrow hnews hnl hone x0 x1 hX4 hbb4
      obtain ⟨x0, x1⟩ := hX6.cells2
      have f1 := hX6.free 1
      have hX7 : AtC 97 (w6.setCell ⟨g, 1, none⟩ (.slice a' m c')) g #[.int .u32 lsrc, .slice a' m c'] := block_setCell hX6
      have hv7 := ownS_store (i := 1) (u := .slice a' m c') hown2 hX6 (by decide)
      have hb7 := hb6.setCell (p := ⟨g, 1, none⟩) (Nat.le_refl _) (.slice a' m c')
      try simp only [Nat.zero_add]
      go_wp2_with fail
      go_meet
      exact ⟨a', c', hX7, hv7, hb7⟩
  case rest =>
  obtain ⟨a', c', hX5, hv5, hb5⟩ := hcut
  rename World => w5
  clear hX4 hbb4 hg4 HRL hac l1 l2 hm hmle hmc hm0
  obtain ⟨zl, hz⟩ : ∃ zl, el.take m = zl := ⟨_, rfl⟩
  rw [hz] at hv5 hzl
  clear hz hel
  subst hzl
  have hZX := atC_new 105 w5 #[.int .u32 src, .slice none 0 0]
  have hg5 : g ≤ w5.heap.size := by have := hX5.lt; omega
  have hX6 := hX5.alloc (.cells #[.int .u32 src, .slice none 0 0] 105)
  have hv6 := hv5.alloc (.cells #[.int .u32 src, .slice none 0 0] 105)
  have hb6 := hb5.alloc hg5 (.cells #[.int .u32 src, .slice none 0 0] 105)
  go_upto_region 5 with fail
  generalize w5.alloc (.cells #[.int .u32 src, .slice none 0 0] 105) = w6 at hZX hX6 hv6 hb6 ⊢
  have hgx : g ≠ w5.heap.size := by have := hX5.lt; omega
  generalize w5.heap.size = gx at hZX hg5 hgx ⊢
  clear hX5 hv5 hb5
  have HA := Lib.hid (fun k h => adsV_take ea k h)
  go_wp2_with fail
  go_loopw [8] (fun i wr => ∃ (k : Nat) (ad : Option Addr) (cd : Nat), k ≤ ln2 ∧ k ≤ 15 ∧ i = .int .i64 k ∧ AtC 97 wr g #[.int .u32 lsrc, .slice a' zl.length c'] ∧ wr.ownsRow g 176 8 (.slice a' zl.length c') zl.length (lisV zl) ∧ AtC 105 wr gx #[.int .u32 src, .slice ad k cd] ∧ wr.ownsRow g 116 3 (.slice ad k cd) k (adsV (ea.take k)) ∧ Below g w wr) (fun i _ => 15 - (intOf i).toNat)
  case atStart => exact ⟨0, none, 0, Nat.zero_le _, by omega, rfl, hX6, hv6, hZX, World.ownsRow_nil _ _ _ _, hb6⟩
  case round =>
    obtain ⟨k, ad, cd, hk, hk15, rfl, hX, hv, hZ, ho, hb⟩ := hrel
    clear hX6 hv6 hZX hb6
    have hgr : g ≤ wr.heap.size := by have := hX.lt; omega
    by_cases hlt : k < ln2 ∧ k < 15
    · obtain ⟨hlt1, hlt2⟩ := hlt
      obtain ⟨ab, off, rfl, x0, x1, x2⟩ := (HRA.out _ hb).at (i := k) (by rw [HEA.out]; exact hlt1)
      have hA := Lib.hid (HA.out k (by rw [HEA.out]; exact hlt1))
      have i1 : (k : Int) < (ln2 : Int) := by omega
      have i2 : (k : Int) < 15 := by omega
      generalize ea[k]?.getD zeroAD = p at x0 x1 x2 hA
      have hA2 : Hid (adsV (ea.take k ++ [p]) = adsV (ea.take (k + 1))) := Lib.hid (by rw [hA.out, adsV_append]; show _ ++ (p.vals ++ []) = _; rw [List.append_nil])
      obtain ⟨path, up, rate⟩ := p
      simp only at x0 x1 x2
      obtain ⟨z0, z1⟩ := hZ.cells2
      clear hlt1 hlt2
      go_upto_region 8 with fail
      have hZb := hZ.alloc (.cells #[.int .i64 path, .bool up, .int .i64 rate] 116)
      obtain ⟨_, z1b⟩ := hZb.cells2
      obtain ⟨_, z1c⟩ := hZb.drew.cells2
      go_region_law (first | (refine step_adv rfl (.tmp 38) (.tmp 43) rfl g gx (.slice ad k cd) k (ea.take k) ⟨path, up, rate⟩ (.int .u32 src) ?a1 ?a2 ?a3 (by omega) (by rfl) (by rfl) ?_; (case a1 => first | exact hZ | exact hZ.drew); (case a2 => first | exact ho | (refine World.ownsRow.drew ?_; exact ho)); (case a3 => first | exact hgr | (simp; exact hgr)); intro ad3 cq w10 H10 hc10 hf10))
      all_goals
        obtain ⟨ho10, hk10, how10, hbl10⟩ := H10.out
        have hX10 : AtC 97 w10 g #[.int .u32 lsrc, .slice a' zl.length c'] := hk10 _ _ hX (by intro cur q e; cases e)
        have hZ10 : AtC 105 w10 gx #[.int .u32 src, .slice ad k cd] := hk10 _ _ hZ (by intro cur q e; cases e)
        have hv10 := how10 (by decide) hv
        have hb10 := hbl10 _ _ (Nat.le_refl _) hb
        rw [hA2.out] at ho10
        have hZ11 : AtC 105 (w10.setCell ⟨gx, 1, none⟩ (.slice ad3 (k + 1) cq)) gx #[.int .u32 src, .slice ad3 (k + 1) cq] := block_setCell hZ10
        have hX11 := hX10.only hgx ((Only.refl gx w10).setCell 1 (.slice ad3 (k + 1) cq))
        have hv11 := ownS_store (i := 1) (u := .slice ad3 (k + 1) cq) hv10 hZ10 (by decide)
        have ho11 := ownS_store (i := 1) (u := .slice ad3 (k + 1) cq) ho10 hZ10 (by decide)
        have hb11 := hb10.setCell (p := ⟨gx, 1, none⟩) hg5 (.slice ad3 (k + 1) cq)
        clear H10 hk10 how10 hbl10 hX10 hZ10 hv10 hb10 ho10 hX hv hZ ho hb z0 z1 z1b z1c hZb x0 x1 x2 hc10 hf10 hA hA2
        go_wp2
        go_roundw
        case rel => exact ⟨k + 1, ad3, cq, by omega, by omega, by go_num, hX11, hv11, hZ11, ho11, hb11⟩
        case measure => simp [intOf]; omega
    · have hkl : (ea.take k).length = k := by rw [List.length_take, HEA.out]; omega
      obtain ⟨az, has⟩ : ∃ az, ea.take k = az := ⟨_, rfl⟩
      rw [has] at ho hkl
      clear has HA HRA
      have hrl := own_readsL hv
      have hra := own_readsA ho
      have HPi := Lib.hid (fun W (h : ReadsL LI.vals W a' zl) => liPiece_any lsrc zl a' c' W h (by omega))
      have hPa := fun W (h : ReadsA W ad az) => advPiece_any src az ad cd W h (by omega)
      rw [hkl] at hPa
      have HPa := Lib.hid hPa
      have hs1 := lsP_small ⟨lsrc, zl⟩
      have hk1 := lsP_kind ⟨lsrc, zl⟩
      have hk2 := asP_kind ⟨src, az⟩
      simp only at hs1
      generalize lsP ⟨lsrc, zl⟩ = PP at HPi hs1 hk1
      generalize asP ⟨src, az⟩ = QQ at HPa hk2
      have hTo := fun W => toAds_any PP W (by omega)
      have hE : toSE PP = 5 := by
        unfold toSE
        rcases hk1 with ⟨h1, h2⟩ | h1
        · rw [if_pos (.inr (by rw [h2]; decide))]
        · rw [h1, if_pos (.inl (by decide))]
      have hS : toS PP = zeroAS := by unfold toS; rw [hE, if_neg (by decide)]
      unfold ToSd at hTo
      rw [hE, hS] at hTo
      have hq2 : QQ.kind ≠ 211 ∨ QQ.count ≠ 1 := by
        rcases hk2 with ⟨h1, h2⟩ | h1
        · exact .inr (by rw [h2]; decide)
        · rw [h1]; exact .inl (by decide)
      obtain ⟨pc, pk, ps⟩ := PP
      obtain ⟨qc, qk, qs⟩ := QQ
      unfold zeroAS at hTo
      simp only [List.length_nil] at HPi HPa hTo hq2
      have HTo := Lib.hid hTo
      have HTl := Lib.hid (fun W => toLinesErr_any qc qk qs W hq2)
      clear hPa hs1 hk1 hk2 hE hS hTo hq2 hv ho
      obtain ⟨x0, x1⟩ := hX.cells2
      have hg7 : g ≤ wr.heap.size := by have := hX.lt; omega
      have hend : (¬ (k : Int) < (ln2 : Int)) ∨ ((k : Int) < (ln2 : Int) ∧ ¬ (k : Int) < 15) := by omega
      clear hlt
      rcases hend with i1 | ⟨i1, i2⟩
      all_goals
        go_wp2_with fail
        refine (HPi.out _ hrl).mono ?_
        rintro e w7 ⟨rfl, hb7⟩
        go_wp2_with fail
        refine (HTo.out _).mono ?_
        rintro e w8 ⟨hb8, a8, c8, rfl, hr8⟩
        have hal : Below w8.heap.size w8 (w8.alloc (.cells #[.int .u32 0, .slice a8 0 c8] 105)) := (Below.refl _ _).alloc (Nat.le_refl _) _
        have hbA : Below wr.heap.size wr (w8.alloc (.cells #[.int .u32 0, .slice a8 0 c8] 105)) := hb7.trans ((hb8.trans (hal.mono hb8.size)).mono hb7.size)
        have hZ9 := hZ.later hbA
        have hra9 := hra.later hbA
        have hb9 := hb.trans (hbA.mono hg7)
        have hg9 : g ≤ (w8.alloc (.cells #[.int .u32 0, .slice a8 0 c8] 105)).heap.size := by have := hZ9.lt; omega
        go_upto_region 10 with fail
        generalize w8.alloc (.cells #[.int .u32 0, .slice a8 0 c8] 105) = w9 at hZ9 hra9 hb9 hg9 ⊢
        generalize w8.heap.size = g8
        clear hX hZ hra hrl hb hb7 hb8 hal hbA hr8 x0 x1
        obtain ⟨z0, z1⟩ := hZ9.cells2
        go_wp2_with fail
        refine (HPa.out _ hra9).mono ?_
        rintro e w10 ⟨rfl, hb10⟩
        go_wp2_with fail
        refine (HTl.out _).mono ?_
        rintro e w11 ⟨rfl, hb11⟩
        have hb12 := (hb9.trans (hb10.mono hg9)).trans (hb11.mono (Nat.le_trans hg9 hb10.size))
        have hb13 := hb12.alloc (Nat.le_trans hg9 (Nat.le_trans hb10.size hb11.size)) (.cells #[.int .u32 0, .slice none 0 0] 97)
        go_wp2
        go_ret
        exact ⟨rfl, by rw [HG.out]; exact hb13⟩
end Go.Proofs.Yteffolbkffafbaa.subflowApart
