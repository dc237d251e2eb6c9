/- The document's fill and ByePiece; the statements' bye. -/
import Derived.Test.YtjoikidnnhjogaaNtE
import Derived.Test.YtjoikidnnhjogaaNtI
import Derived.Test.YtjoikidnnhjogaaRtpBP
import Derived.Test.YtjoikidnnhjogaaPcJ
import Derived.Deep.RegionHeld3
import Derived.Deep.QuietTactic
import Derived.BigQuiet
namespace Go.Proofs.Ytjoikidnnhjogaa
open Go.RowKit
set_option linter.unusedVariables false
theorem boxAt_newB (W : World) (p : PC) : BoxAt (W.alloc (.cells #[.int .i64 p.count, .int .i64 p.kind, .string p.body] 23)) W.heap.size p := heap_alloc_new W _
def szV : Value → Nat
  | .string s => s.size
  | _ => 0
theorem zero_one : ({ data := #[0] } : ByteArray) = ofL (List.replicate 1 0) := by kernel_rfl
set_option maxHeartbeats 800000 in
theorem fill_any (s : ByteArray) (w : World) (hs : s.size ≤ 1000000) : Calls Try.prog 72 #[.string s] w fun e w' => e = .returned (.string (ofL (by_ s ++ List.replicate (upW s.size) 0))) ∧ Below w.heap.size w w' := by
  have hu := upW_lt s.size
  have hsz : ∀ k : Nat, (ofL (by_ s ++ List.replicate k 0)).size = s.size + k := fun k => by rw [ofL_size, List.length_append, by_len, List.length_replicate]
  have hadd : ∀ k : Nat, k ≤ 4 → ∀ W : World, Sem.run Try.prog (Op.stringOp .add (ofL (by_ s ++ List.replicate k 0)) { data := #[0] }) W = Result.ok (.string (ofL (by_ s ++ List.replicate (k + 1) 0))) W := fun k hk W => by
    rw [zero_one]
    refine sum_run _ _ _ ?_ ?_ W
    · rw [List.append_assoc, List.replicate_append_replicate]
    · simp [by_len]; omega
  have hmod : ∀ k : Nat, k ≤ upW s.size → (k < upW s.size ↔ (s.size + k) % 4 ≠ 0) := fun k hk => by unfold upW at *; omega
  have hst : Hid (s = ofL (by_ s ++ List.replicate 0 0)) := Lib.hid (by simp [ofL_by])
  have HSZ := Lib.hid hsz
  have HADD := Lib.hid hadd
  have HMOD := Lib.hid hmod
  generalize upW s.size = U at HMOD hu ⊢
  clear hsz hadd hmod
  go_enter Try.func72, Try.ntmps72
  go_wp2_with fail
  go_loopw [0] (fun z wr => wr = w ∧ ∃ k : Nat, k ≤ U ∧ z = .string (ofL (by_ s ++ List.replicate k 0))) (fun z _ => s.size + 4 - szV z)
  case atStart => exact ⟨rfl, 0, Nat.zero_le _, by rw [← hst.out]⟩
  case round =>
    obtain ⟨rfl, k, hk, rfl⟩ := hrel
    have h1 := HSZ.out k
    have h2 := HADD.out k (by omega)
    have h3 := Lib.hid (HMOD.out k hk)
    have h4 := HSZ.out (k + 1)
    by_cases hlt : k < U
    · generalize hD1 : ofL (by_ s ++ List.replicate (k + 1) 0) = D1 at h2 h4
      generalize ofL (by_ s ++ List.replicate k 0) = D0 at h1 h2 ⊢
      have HD := Lib.hid hD1
      have ht : (((D0.size : Nat) : Int) % 4 != 0) = true := by have := h3.out.1 hlt; simp only [bne_iff_ne, ne_eq]; omega
      have H1 := Lib.hid h1
      have H4 := Lib.hid h4
      clear h1 h4 hD1
      go_wp2
      go_roundw
      case rel => exact ⟨trivial, k + 1, by omega, by rw [HD.out]⟩
      case measure => unfold szV; have := H1.out; have := H4.out; simp only; omega
    · obtain rfl : k = U := by omega
      obtain ⟨D0, hD0⟩ : ∃ D0, ofL (by_ s ++ List.replicate k 0) = D0 := ⟨_, rfl⟩
      have HD0 := Lib.hid hD0
      rw [hD0] at h1 ⊢
      clear hD0
      have ht : (((D0.size : Nat) : Int) % 4 != 0) = false := by
        have h5 : ¬ (s.size + k) % 4 ≠ 0 := fun h => absurd (h3.out.2 h) (by omega)
        simp only [bne_eq_false_iff_eq]; omega
      clear h1 h2 h4
      go_wp2
      go_ret
      exact ⟨by rw [HD0.out]; rfl, Below.refl _ _⟩
theorem bes_take (l : List Int) (k n : Nat) (h : k < l.length) : bes (l.take (k + 1)) n = bes (l.take k) n ++ be (l[k]?.getD 0) n := by
  rw [List.take_succ_eq_append_getElem h, bes_snoc]
  congr 2
  simp [h]
set_option maxRecDepth 100000 in
set_option maxHeartbeats 6400000 in
theorem refByePiece_any (y : BY) (a : Option Addr) (c : Nat) (w : World) (hr : Reads .i64 w a y.srcs) (hl : y.srcs.length ≤ 1000) (hz : y.reason.size ≤ 1000000) (hs : ∀ s ∈ y.srcs, 0 ≤ s ∧ s ≤ 4294967295) :
    Calls Try.prog 25 #[.agg #[.string y.reason, .slice a y.srcs.length c]] w fun e w' =>
      e = .returned (.agg #[.int .i64 (byP y).count, .int .i64 (byP y).kind, .string (byP y).body]) ∧ Below w.heap.size w w' := by
  obtain ⟨q, hq⟩ : ∃ q, byP y = q := ⟨_, rfl⟩
  rw [hq]
  have HR := Lib.hid (fun W (h : Below w.heap.size w W) => hr.later h)
  have hX1 := atC_new 55 w #[.string y.reason, .slice a y.srcs.length c]
  have hX2 := hX1.alloc (.cells #[.int .i64 0, .int .i64 0, .string { data := #[] }] 23)
  have hY2 := boxAt_newB (w.alloc (.cells #[.string y.reason, .slice a y.srcs.length c] 55)) zeroPC
  have hb2 : Below w.heap.size w ((w.alloc (.cells #[.string y.reason, .slice a y.srcs.length c] 55)).alloc (.cells #[.int .i64 0, .int .i64 0, .string { data := #[] }] 23)) := by go_grown
  have hne : (w.alloc (.cells #[.string y.reason, .slice a y.srcs.length c] 55)).heap.size = w.heap.size + 1 := by simp
  rw [hne] at hY2
  unfold zeroPC at hY2
  simp only at hY2
  clear hX1 hne hr
  by_cases hm : byMay y
  · have hqv : q = ⟨(y.srcs.length : Nat), 203, ofL (byL y)⟩ := by rw [← hq]; unfold byP; rw [if_pos hm]
    have hKd := Lib.hid hqv
    obtain ⟨m1, m2⟩ := hm
    have hBL : Hid (byL y = bes y.srcs 4 ++ rsL y.reason) := Lib.hid rfl
    have hR0 : y.reason.size = 0 → Hid (rsL y.reason = []) := fun h => Lib.hid (by unfold rsL; rw [if_pos h])
    have hR1 : y.reason.size ≠ 0 → Hid (rsL y.reason = be ((y.reason.size : Nat) : Int) 1 ++ (by_ y.reason ++ List.replicate (upW (1 + y.reason.size)) 0)) := fun h => Lib.hid (by unfold rsL; rw [if_neg h])
    have hST : Hid (∀ k, k < y.srcs.length → bes (y.srcs.take (k + 1)) 4 = bes (y.srcs.take k) 4 ++ be (y.srcs[k]?.getD 0) 4) := Lib.hid (fun k h => bes_take _ k 4 h)
    have hSM : Hid (∀ k, k < y.srcs.length → 0 ≤ y.srcs[k]?.getD 0 ∧ y.srcs[k]?.getD 0 ≤ 4294967295) := Lib.hid (fun k h => hs _ (by rw [List.getElem?_eq_getElem h]; exact List.getElem_mem h))
    have hSL : Hid (∀ k, k ≤ y.srcs.length → (bes (y.srcs.take k) 4).length = k * 4) := Lib.hid (fun k h => by rw [bes_len, List.length_take, Nat.min_eq_left h])
    have hS0 : Hid (ofL (bes (y.srcs.take 0) 4) = { data := #[] }) := Lib.hid rfl
    have hSN : Hid (bes (y.srcs.take y.srcs.length) 4 = bes y.srcs 4) := Lib.hid (by rw [List.take_length])
    have hSN4 : (bes y.srcs 4).length = y.srcs.length * 4 := bes_len _ _
    generalize rsL y.reason = RL at hBL hR0 hR1
    generalize byL y = AL at hKd hBL
    clear hq hqv hs
    obtain ⟨reason, srcs⟩ := y
    simp only at *
    have k1 : ¬ (31 : Int) < (srcs.length : Int) := by omega
    have k2 : ¬ (255 : Int) < (reason.size : Int) := by omega
    go_enter Try.func25, Try.ntmps25
    go_upto_region 1 with fail
    generalize (w.alloc (.cells #[.string reason, .slice a srcs.length c] 55)).alloc (.cells #[.int .i64 0, .int .i64 0, .string { data := #[] }] 23) = w2 at hX2 hY2 hb2 ⊢
    have hgB : w.heap.size ≤ w.heap.size + 1 := by omega
    generalize hg2 : w.heap.size + 1 = g2 at hY2 hgB ⊢
    generalize hg : w.heap.size = g at hX2 hb2 hgB HR ⊢
    have HG := Lib.hid hg
    clear hg2 hg
    obtain ⟨x0, x1⟩ := hX2.cells2
    go_wp2_with fail
    go_loopw [3, 20] (fun z i wr => ∃ k : Nat, k ≤ srcs.length ∧ i = .int .i64 k ∧ z = .string (ofL (bes (srcs.take k) 4)) ∧ AtC 55 wr g #[.string reason, .slice a srcs.length c] ∧ BoxAt wr g2 ⟨0, 0, { data := #[] }⟩ ∧ Below g w wr) (fun _ i _ => srcs.length - (intOf i).toNat)
    case atStart => exact ⟨0, Nat.zero_le _, rfl, by rw [hS0.out], hX2, hY2, hb2⟩
    case round =>
      obtain ⟨k, hk, rfl, rfl, hX3, hY3, hb3⟩ := hrel
      clear hX2 hY2 hb2 x0 x1
      have hg3 : g ≤ wr.heap.size := by have := hX3.lt; omega
      by_cases hlt : k < srcs.length
      · obtain ⟨ab, off, rfl, c0⟩ := reads_at' (HR.out _ hb3) hlt
        have hT := hST.out k hlt
        obtain ⟨b0, b1⟩ := hSM.out k hlt
        have hL := hSL.out k hk
        have hL1 := hSL.out (k + 1) (by omega)
        generalize srcs[k]?.getD 0 = u at c0 hT b0 b1
        have hU := fun W => put_as 4 u 4 W rfl (by omega) (by omega) (by decide)
        have hM : (be u 4).length = 4 := be_len _ _
        have hsum : ∀ W : World, _ := fun W => sum_run (bes (srcs.take k) 4) (be u 4) (bes (srcs.take (k + 1)) 4) hT.symm (by omega) W
        obtain ⟨DG, hDG⟩ : ∃ DG, ofL (bes (srcs.take (k + 1)) 4) = DG := ⟨_, rfl⟩
        have HDG := Lib.hid hDG
        rw [hDG] at hsum
        clear hDG hT hL hL1 hM
        generalize ofL (bes (srcs.take k) 4) = D0 at hsum ⊢
        generalize ofL (be u 4) = D1 at hsum hU
        have HU := Lib.hid hU
        clear hU
        go_wp2_with fail
        refine (HU.out _).mono ?_
        rintro e w5 ⟨rfl, hb5⟩
        have hX5 := hX3.later hb5
        have hY5 : BoxAt w5 g2 ⟨0, 0, { data := #[] }⟩ := hY3.later hb5
        have hbb5 := hb3.trans (hb5.mono hg3)
        go_wp2
        go_roundw
        case rel => exact ⟨k + 1, by omega, by go_num, by rw [HDG.out], hX5, hY5, hbb5⟩
        case measure => simp [intOf]; omega
      · obtain rfl : k = srcs.length := by omega
        rw [hSN.out]
        clear hST hSM hSL hS0 hSN HR
        obtain ⟨x0, x1⟩ := hX3.cells2
        obtain ⟨bE, hbE⟩ : ∃ bE, reason.toList.isEmpty = bE := ⟨_, rfl⟩
        have HbE := Lib.hid hbE
        go_upto_if 31 with fail
        clear hbE
        go_cut [3] (fun z3 wx => z3 = .string (ofL AL) ∧ AtC 55 wx g #[.string reason, .slice a srcs.length c] ∧ BoxAt wx g2 ⟨0, 0, { data := #[] }⟩ ∧ Below g w wx)
        case first =>
          cases bE
          case true =>
            have h0 : reason.size = 0 := by have := HbE.out; rw [isEmpty_size, decide_eq_true_eq] at this; exact this
            have hE := hR0 h0
            clear hR0 hR1 h0
            go_wp2_with fail
            go_meet
            exact ⟨by rw [hBL.out, hE.out, List.append_nil], hX3, hY3, hb3⟩
          case false =>
            have h0 : reason.size ≠ 0 := by have := HbE.out; rw [isEmpty_size, decide_eq_false_iff_not] at this; exact this
            have hE := hR1 h0
            clear hR0 hR1
            have hU := fun W => put_as 1 ((reason.size : Nat) : Int) 1 W rfl (by omega) (by omega) (by decide)
            have hM : (be ((reason.size : Nat) : Int) 1).length = 1 := be_len _ _
            have hs1 : ∀ W : World, _ := fun W => sum_run (bes srcs 4) (be ((reason.size : Nat) : Int) 1) (bes srcs 4 ++ be ((reason.size : Nat) : Int) 1) rfl (by simp only [List.length_append]; omega) W
            have hs2 : ∀ W : World, _ := fun W => sum_run (bes srcs 4 ++ be ((reason.size : Nat) : Int) 1) (by_ reason) (bes srcs 4 ++ be ((reason.size : Nat) : Int) 1 ++ by_ reason) rfl (by simp only [List.length_append, by_len]; omega) W
            rw [ofL_by] at hs2
            have hzE : (ofL (bes srcs 4 ++ be ((reason.size : Nat) : Int) 1 ++ by_ reason)).size = srcs.length * 4 + 1 + reason.size := by rw [ofL_size]; simp only [List.length_append, by_len]; omega
            have hF := fun W => fill_any (ofL (bes srcs 4 ++ be ((reason.size : Nat) : Int) 1 ++ by_ reason)) W (by omega)
            have hup : upW (ofL (bes srcs 4 ++ be ((reason.size : Nat) : Int) 1 ++ by_ reason)).size = upW (1 + reason.size) := by rw [hzE]; unfold upW; omega
            rw [hup, by_ofL] at hF
            have hfin : Hid (bes srcs 4 ++ be ((reason.size : Nat) : Int) 1 ++ by_ reason ++ List.replicate (upW (1 + reason.size)) 0 = AL) := Lib.hid (by rw [hBL.out, hE.out]; simp)
            rw [hfin.out] at hF
            clear hfin hE hBL hup hzE hSN4
            generalize ofL (bes srcs 4 ++ be ((reason.size : Nat) : Int) 1 ++ by_ reason) = D2 at hs2 hF
            generalize ofL (bes srcs 4 ++ be ((reason.size : Nat) : Int) 1) = D1 at hs1 hs2
            generalize ofL (be ((reason.size : Nat) : Int) 1) = DP at hs1 hU
            generalize ofL (bes srcs 4) = D0 at hs1 ⊢
            obtain ⟨DZ, hDZ⟩ : ∃ DZ, ofL AL = DZ := ⟨_, rfl⟩
            have HDZ := Lib.hid hDZ
            rw [hDZ] at hF
            clear hDZ
            have HU := Lib.hid hU
            have HF := Lib.hid hF
            clear hU hF hM h0
            have hSS : ∀ W : World, Below wr.heap.size wr W → W.cell? ⟨g, 0, none⟩ = some (.string reason) ∧ Below wr.heap.size wr W := fun W h => by
              obtain ⟨b0, b1⟩ := (hX3.later h).cells2
              exact ⟨b0, h⟩
            have HSS := Lib.hid hSS
            clear hSS
            go_wp2_with fail
            go_region_held3 (fun W => W.cell? ⟨g, 0, none⟩ = some (.string reason) ∧ Below wr.heap.size wr W) (first | (go_keep; done) | exact HSS.out _ (Below.drew (Below.refl _ _)) | exact HSS.out _ (Below.drew (by go_split_ands; assumption)) | exact HSS.out _ (below_step (by go_split_ands; assumption) (by assumption)) | (go_split_ands; assumption)) (first | (go_at_call 71; refine (HU.out _).mono ?_; rintro e w' ⟨rfl, hbx1⟩) | (go_at_call 72; refine (HF.out _).mono ?_; rintro e w' ⟨rfl, hbx2⟩))
            all_goals
              go_wp2_with fail
              go_meet
              refine ⟨by rw [HDZ.out], hX3.later ?_, hY3.later ?_, hb3.trans (Below.mono (B := wr.heap.size) ?_ hg3)⟩ <;> first | assumption | (go_split_ands; assumption)
        case rest =>
        obtain ⟨rfl, hX6, hY6, hb6⟩ := hcut
        rename World => w6
        clear hX3 hY3 hb3 hg3 x0 x1 hBL hR0 hR1 HbE
        obtain ⟨x0, x1⟩ := hX6.cells2
        obtain ⟨y0, y1, y2, _⟩ := boxAt_S hY6
        have f0 : w6.frozen? ⟨g2, 0, none⟩ = false := by simp [World.frozen?, show w6.heap[g2]? = _ from hY6]
        have f1 : w6.frozen? ⟨g2, 1, none⟩ = false := by simp [World.frozen?, show w6.heap[g2]? = _ from hY6]
        have f2 : w6.frozen? ⟨g2, 2, none⟩ = false := by simp [World.frozen?, show w6.heap[g2]? = _ from hY6]
        generalize ofL AL = RS at hKd ⊢
        have hz : BoxAt (((w6.setCell ⟨g2, 0, none⟩ (.int .i64 (srcs.length : Nat))).setCell ⟨g2, 1, none⟩ (.int .i64 203)).setCell ⟨g2, 2, none⟩ (.string RS)) g2 ⟨(srcs.length : Nat), 203, RS⟩ := block_setCell (i := 2) (u := .string RS) (block_setCell (i := 1) (u := .int .i64 203) (block_setCell (i := 0) (u := .int .i64 (srcs.length : Nat)) hY6))
        have hbz := (((hb6.setCell (p := ⟨g2, 0, none⟩) hgB (.int .i64 (srcs.length : Nat))).setCell (p := ⟨g2, 1, none⟩) hgB (.int .i64 203)).setCell (p := ⟨g2, 2, none⟩) hgB (.string RS))
        go_wp2
        generalize ((w6.setCell ⟨g2, 0, none⟩ (.int .i64 (srcs.length : Nat))).setCell ⟨g2, 1, none⟩ (.int .i64 203)).setCell ⟨g2, 2, none⟩ (.string RS) = wz at hz hbz ⊢
        obtain ⟨d0, d1, d2, _⟩ := boxAt_S hz
        refine bodyPost_ret (v := .agg #[.int .i64 (srcs.length : Nat), .int .i64 203, .string RS]) (by simp [results, Try.results25, go_sem, d0, d1, d2]) rfl ⟨by rw [hKd.out], by rw [HG.out]; exact hbz⟩
  · have hqv : q = zeroPC := by rw [← hq]; unfold byP; rw [if_neg hm]
    subst hqv
    unfold byMay at hm
    clear hq HR
    obtain ⟨reason, srcs⟩ := y
    unfold zeroPC
    simp only at *
    have hbad : (31 : Int) < (srcs.length : Int) ∨ (¬ (31 : Int) < (srcs.length : Int) ∧ (255 : Int) < (reason.size : Int)) := by omega
    clear hm
    go_enter Try.func25, Try.ntmps25
    go_upto_region 1 with fail
    generalize (w.alloc (.cells #[.string reason, .slice a srcs.length c] 55)).alloc (.cells #[.int .i64 0, .int .i64 0, .string { data := #[] }] 23) = w2 at hX2 hY2 hb2 ⊢
    have hgB : w.heap.size ≤ w.heap.size + 1 := by omega
    generalize hg2 : w.heap.size + 1 = g2 at hY2 hgB ⊢
    generalize hg : w.heap.size = g at hX2 hb2 hgB ⊢
    have HG := Lib.hid hg
    clear hg2 hg
    obtain ⟨x0, x1⟩ := hX2.cells2
    obtain ⟨y0, y1, y2, _⟩ := boxAt_S hY2
    have f0 : w2.frozen? ⟨g2, 0, none⟩ = false := by simp [World.frozen?, show w2.heap[g2]? = _ from hY2]
    have f1 : w2.frozen? ⟨g2, 1, none⟩ = false := by simp [World.frozen?, show w2.heap[g2]? = _ from hY2]
    have f2 : w2.frozen? ⟨g2, 2, none⟩ = false := by simp [World.frozen?, show w2.heap[g2]? = _ from hY2]
    have hz : BoxAt (((w2.setCell ⟨g2, 0, none⟩ (.int .i64 0)).setCell ⟨g2, 1, none⟩ (.int .i64 0)).setCell ⟨g2, 2, none⟩ (.string { data := #[] })) g2 ⟨0, 0, { data := #[] }⟩ := block_setCell (i := 2) (u := .string { data := #[] }) (block_setCell (i := 1) (u := .int .i64 0) (block_setCell (i := 0) (u := .int .i64 0) hY2))
    have hbz := (((hb2.setCell (p := ⟨g2, 0, none⟩) hgB (.int .i64 0)).setCell (p := ⟨g2, 1, none⟩) hgB (.int .i64 0)).setCell (p := ⟨g2, 2, none⟩) hgB (.string { data := #[] }))
    rcases hbad with k | ⟨k, k2⟩
    all_goals
      go_wp2
      generalize ((w2.setCell ⟨g2, 0, none⟩ (.int .i64 0)).setCell ⟨g2, 1, none⟩ (.int .i64 0)).setCell ⟨g2, 2, none⟩ (.string { data := #[] }) = wz at hz hbz ⊢
      obtain ⟨d0, d1, d2, _⟩ := boxAt_S hz
      refine bodyPost_ret (v := .agg #[.int .i64 0, .int .i64 0, .string { data := #[] }]) (by simp [results, Try.results25, go_sem, d0, d1, d2]) rfl ⟨rfl, by rw [HG.out]; exact hbz⟩
set_option maxRecDepth 100000 in
set_option maxHeartbeats 3200000 in
theorem byeSame_t (y : BY) (a a2 : Option Addr) (c c2 : Nat) (w : World) (hl : y.srcs.length ≤ 1000000) (hr : Reads .u32 w a y.srcs) (hr2 : Reads .i64 w a2 y.srcs) (hs : ∀ s ∈ y.srcs, 0 ≤ s ∧ s ≤ 4294967295) :
    Calls Try.prog 28 #[.agg #[.string y.reason, .slice a y.srcs.length c], .agg #[.string y.reason, .slice a2 y.srcs.length c2]] w fun e w' => e = .returned (.bool true) ∧ Below w.heap.size w w' := by
  obtain ⟨reason, l⟩ := y
  simp only at *
  have hX1 := atC_new 52 w #[.string reason, .slice a l.length c]
  have hX2 := hX1.alloc (.cells #[.string reason, .slice a2 l.length c2] 55)
  have hY2 := atC_new 55 (w.alloc (.cells #[.string reason, .slice a l.length c] 52)) #[.string reason, .slice a2 l.length c2]
  have hb2 : Below w.heap.size w ((w.alloc (.cells #[.string reason, .slice a l.length c] 52)).alloc (.cells #[.string reason, .slice a2 l.length c2] 55)) := by go_grown
  have hne : (w.alloc (.cells #[.string reason, .slice a l.length c] 52)).heap.size = w.heap.size + 1 := by simp
  rw [hne] at hY2
  have HR := Lib.hid (fun W (h : Below w.heap.size w W) => hr.later h)
  have HR2 := Lib.hid (fun W (h : Below w.heap.size w W) => hr2.later h)
  have HS : Hid (∀ k, k < l.length → 0 ≤ l[k]?.getD 0 ∧ l[k]?.getD 0 ≤ 4294967295) := Lib.hid (fun k h => hs _ (by rw [List.getElem?_eq_getElem h]; exact List.getElem_mem h))
  clear hX1 hne hr hr2 hs
  have hee := texts_eq reason reason
  have e1 : (reason.toList == reason.toList) = true := by simp
  go_enter Try.func28, Try.ntmps28
  go_upto_region 1 with fail
  generalize (w.alloc (.cells #[.string reason, .slice a l.length c] 52)).alloc (.cells #[.string reason, .slice a2 l.length c2] 55) = w2 at hX2 hY2 hb2 ⊢
  generalize hg2 : w.heap.size + 1 = g2 at hY2 ⊢
  generalize hg : w.heap.size = g at hX2 hb2 HR HR2 ⊢
  have HG := Lib.hid hg
  clear hg2 hg
  obtain ⟨x0, x1⟩ := hX2.cells2
  obtain ⟨y0, y1⟩ := hY2.cells2
  go_wp2_with fail
  go_loopw [23] (fun i wr => ∃ k : Nat, k ≤ l.length ∧ i = .int .i64 k ∧ AtC 52 wr g #[.string reason, .slice a l.length c] ∧ AtC 55 wr g2 #[.string reason, .slice a2 l.length c2] ∧ Below g w wr) (fun i _ => l.length - (intOf i).toNat)
  case atStart => exact ⟨0, Nat.zero_le _, rfl, hX2, hY2, hb2⟩
  case round =>
    obtain ⟨k, hk, rfl, hX, hY, hb⟩ := hrel
    clear hX2 hY2 hb2 x0 x1 y0 y1
    obtain ⟨x0, x1⟩ := hX.cells2
    obtain ⟨y0, y1⟩ := hY.cells2
    by_cases hlt : k < l.length
    · obtain ⟨ab, off, rfl, c0⟩ := reads_at' (HR.out _ hb) hlt
      obtain ⟨ab2, off2, rfl, d0⟩ := reads_at' (HR2.out _ hb) hlt
      obtain ⟨b0, b1⟩ := HS.out k hlt
      generalize l[k]?.getD 0 = u at c0 d0 b0 b1
      have hw : IntKind.i64.wrap u = u := IntWalk.i64_in _ ⟨by omega, by omega⟩
      have i1 : (k : Int) < (l.length : Int) := by omega
      go_wp2_with fail
      go_quiet (fail)
      have hb2 := below_drewN hb nq
      have hX2 : AtC 52 (wr.drewN nq) g #[.string reason, .slice (some ⟨ab, off, none⟩) l.length c] := by unfold AtC; rw [heap_drewN]; exact hX
      have hY2 : AtC 55 (wr.drewN nq) g2 #[.string reason, .slice (some ⟨ab2, off2, none⟩) l.length c2] := by unfold AtC; rw [heap_drewN]; exact hY
      go_wp2
      go_roundw
      case rel => exact ⟨k + 1, by omega, by go_num, hX2, hY2, hb2⟩
      case measure => simp [intOf]; omega
    · obtain rfl : k = l.length := by omega
      go_wp2
      go_ret
      exact ⟨rfl, by rw [HG.out]; exact hb⟩
end Go.Proofs.Ytjoikidnnhjogaa

