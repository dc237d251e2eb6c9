/- notes.Bye.Piece. -/
import Derived.Test.YtjoikidnnhjogaaNtB
import Derived.Test.YtjoikidnnhjogaaRtpW
import Derived.Deep.RegionHeld3
namespace Go.Proofs.Ytjoikidnnhjogaa
open Go.RowKit
set_option linter.unusedVariables false
structure BY where
  reason : ByteArray
  srcs : List Int
def zeroBY : BY := ⟨{ data := #[] }, []⟩
def upW (n : Nat) : Nat := (4 - n % 4) % 4
def rsL (r : ByteArray) : List UInt8 := if r.size = 0 then [] else be ((r.size : Nat) : Int) 1 ++ (by_ r ++ List.replicate (upW (1 + r.size)) 0)
def byL (b : BY) : List UInt8 := bes b.srcs 4 ++ rsL b.reason
def byMay (b : BY) : Prop := b.srcs.length ≤ 31 ∧ b.reason.size ≤ 255
instance byMay_dec (b : BY) : Decidable (byMay b) := by unfold byMay; infer_instance
def byP (b : BY) : PC := if byMay b then ⟨(b.srcs.length : Nat), 203, ofL (byL b)⟩ else zeroPC
theorem upW_lt (n : Nat) : upW n < 4 := by unfold upW; omega
theorem upToWord_any (n : Nat) (w : World) (hn : n ≤ 1000000) : Calls Try.prog 69 #[.int .i64 (n : Int)] w fun e w' => e = .returned (.int .i64 ((upW n : Nat) : Int)) ∧ w = w' := by
  have e : ((upW n : Nat) : Int) = (4 - (n : Int) % 4) % 4 := by unfold upW; omega
  rw [e]
  clear e
  go_enter Try.func69, Try.ntmps69
  go_wp2
  go_ret
  exact ⟨rfl, rfl⟩
theorem upToWord_at (S : Int) (n : Nat) (w : World) (hS : S = (n : Int)) (hn : n ≤ 1000000) : Calls Try.prog 69 #[.int .i64 S] w fun e w' => e = .returned (.int .i64 ((upW n : Nat) : Int)) ∧ w = w' := by
  rw [hS]; exact upToWord_any n w hn
theorem zeros_any (c : Nat) (w : World) (hc : c ≤ 1000) : Calls Try.prog 68 #[.int .i64 (c : Int)] w fun e w' => e = .returned (.string (ofL (List.replicate c 0))) ∧ Below w.heap.size w w' := by
  have HR := Lib.hid (fun W => repeat_at (c : Int) c W rfl hc)
  generalize ofL (List.replicate c 0) = D at HR ⊢
  go_enter Try.func68, Try.ntmps68
  go_wp2_with fail
  refine (HR.out _).mono ?_
  rintro e w2 ⟨rfl, hb⟩
  go_wp2
  go_ret
  exact ⟨rfl, hb⟩
set_option maxRecDepth 100000 in
set_option maxHeartbeats 6400000 in
theorem byePiece_any (y : BY) (a : Option Addr) (c : Nat) (w : World) (hr : Reads .u32 w a y.srcs) (hl : y.srcs.length ≤ 1000000) (hz : y.reason.size ≤ 9223372036854775807) :
    Calls Try.prog 24 #[.agg #[.string y.reason, .slice a y.srcs.length c]] w fun e w' =>
      e = .returned (.agg #[.int .i64 (byP y).count, .int .i64 (byP y).kind, .string (byP y).body]) ∧ Below w.heap.size w w' := by
  obtain ⟨q, hq⟩ : ∃ q, byP y = q := ⟨_, rfl⟩
  rw [hq]
  have HR := Lib.hid (fun W (h : Below w.heap.size w W) => hr.later h)
  have hX1 := atC_new 52 w #[.string y.reason, .slice a y.srcs.length c]
  have hX2 := hX1.alloc (.cells #[.int .i64 0, .int .i64 0, .string { data := #[] }] 33)
  have hY2 := pc_new (w.alloc (.cells #[.string y.reason, .slice a y.srcs.length c] 52)) zeroPC
  have hb2 : Below w.heap.size w ((w.alloc (.cells #[.string y.reason, .slice a y.srcs.length c] 52)).alloc (.cells #[.int .i64 0, .int .i64 0, .string { data := #[] }] 33)) := by go_grown
  have hne : (w.alloc (.cells #[.string y.reason, .slice a y.srcs.length c] 52)).heap.size = w.heap.size + 1 := by simp
  rw [hne] at hY2
  unfold zeroPC at hY2
  simp only at hY2
  clear hX1 hne hr
  by_cases hm : byMay y
  · have hqv : q = ⟨(y.srcs.length : Nat), 203, ofL (byL y)⟩ := by rw [← hq]; unfold byP; rw [if_pos hm]
    have hKd := Lib.hid hqv
    obtain ⟨m1, m2⟩ := hm
    have hBL : Hid (byL y = [] ++ bes y.srcs 4 ++ rsL y.reason) := Lib.hid rfl
    have hR0 : y.reason.size = 0 → Hid (rsL y.reason = []) := fun h => Lib.hid (by unfold rsL; rw [if_pos h])
    have hR1 : y.reason.size ≠ 0 → Hid (rsL y.reason = bes [((y.reason.size : Nat) : Int)] 1 ++ cat [y.reason, ofL (List.replicate (upW (1 + y.reason.size)) 0)]) := fun h => Lib.hid (by unfold rsL; rw [if_neg h, bes_one]; simp [cat, by_ofL])
    generalize rsL y.reason = RL at hBL hR0 hR1
    generalize byL y = AL at hKd hBL
    clear hq hqv
    obtain ⟨reason, srcs⟩ := y
    simp only at *
    have k1 : ¬ (31 : Int) < (srcs.length : Int) := by omega
    have k2 : ¬ (255 : Int) < (reason.size : Int) := by omega
    have hbl : (bes srcs 4).length = srcs.length * 4 := bes_len _ _
    go_enter Try.func24, Try.ntmps24
    go_upto_region 1 with fail
    generalize (w.alloc (.cells #[.string reason, .slice a srcs.length c] 52)).alloc (.cells #[.int .i64 0, .int .i64 0, .string { data := #[] }] 33) = w2 at hX2 hY2 hb2 ⊢
    have hgB : w.heap.size ≤ w.heap.size + 1 := by omega
    have hgn : w.heap.size ≠ w.heap.size + 1 := by omega
    generalize hg2 : w.heap.size + 1 = g2 at hY2 hgB hgn ⊢
    generalize hg : w.heap.size = g at hX2 hb2 hgB hgn HR ⊢
    have HG := Lib.hid hg
    clear hg2 hg
    obtain ⟨x0, x1⟩ := hX2.cells2
    go_upto_region 3 with fail
    have hg3 := hX2.lt
    have hO := out_new w2 w2.heap.size (Nat.le_refl _)
    have hX4 := hX2.alloc (.cells #[.slice none 0 0] 137)
    have hY4 := hY2.alloc (.cells #[.slice none 0 0] 137)
    have hbb4 := hb2.alloc (by omega) (.cells #[.slice none 0 0] 137)
    have hg2o : g2 < w2.heap.size := hY2.lt
    go_wp2_with fail
    generalize w2.alloc (.cells #[.slice none 0 0] 137) = w4 at hO hX4 hY4 hbb4 ⊢
    obtain ⟨bo, hbo⟩ : ∃ bo, w2.heap.size = bo := ⟨_, rfl⟩
    rw [hbo] at hO hg3 hg2o ⊢
    clear hbo x0 x1 hX2 hY2 hb2
    refine (u32_any bo bo _ [] srcs a c srcs.length w4 hO rfl (fun w' hb _ => HR.out w' (hbb4.trans (hb.mono (by omega)))) (by omega) (by simp; omega)).mono ?_
    rintro e w5 ⟨rfl, v5, hO5, hb5, ho5⟩
    have hX5 : AtC 52 w5 g #[.string reason, .slice a srcs.length c] := hX4.others (by decide) (by omega) ho5
    have hY5 := hY4.others (by omega) ho5
    have hbb5 : Below g w w5 := hbb4.trans (hb5.mono (by omega))
    clear hX4 hY4 hbb4 hO hb5 ho5
    obtain ⟨x0, x1⟩ := hX5.cells2
    have hg5 : g < w5.heap.size := hX5.lt
    obtain ⟨bE, hbE⟩ : ∃ bE, reason.toList.isEmpty = bE := ⟨_, rfl⟩
    have HbE := Lib.hid hbE
    go_upto_if 21 with fail
    clear hbE
    go_cut [3] (fun z3 wx => z3 = .pointer (some ⟨bo, 0, none⟩) ∧ ∃ v, OutAt wx bo bo v AL ∧ AtC 52 wx g #[.string reason, .slice a srcs.length c] ∧ PcAt wx g2 ⟨0, 0, { data := #[] }⟩ ∧ Below g w wx)
    case first =>
      cases bE
      case true =>
        have h0 : reason.size = 0 := by have := HbE.out; rw [isEmpty_size, decide_eq_true_eq] at this; exact this
        have hE := hR0 h0
        clear hR0 hR1 h0
        go_wp2_with fail
        go_meet
        exact ⟨rfl, v5, by rw [hBL.out, hE.out, List.append_nil]; exact hO5, hX5, hY5, hbb5⟩
      case false =>
        have h0 : reason.size ≠ 0 := by have := HbE.out; rw [isEmpty_size, decide_eq_false_iff_not] at this; exact this
        have hE := hR1 h0
        clear hR0 hR1
        have hU := Lib.hid (fun W (S : Int) (hS : S = ((1 + reason.size : Nat) : Int)) => upToWord_at S (1 + reason.size) W hS (by omega))
        have hkk : (1 : Int) + (reason.size : Int) ≤ 256 := by omega
        have hk0 : (0 : Int) ≤ (reason.size : Int) := by omega
        have hZr := Lib.hid (fun W => zeros_any (upW (1 + reason.size)) W (by have := upW_lt (1 + reason.size); omega))
        have hzl : (cat [reason, ofL (List.replicate (upW (1 + reason.size)) 0)]).length ≤ 1000 := by
          have := upW_lt (1 + reason.size)
          simp [cat, by_len, by_ofL]
          omega
        generalize upW (1 + reason.size) = UW at hU hZr hE hzl
        generalize ofL (List.replicate UW 0) = ZS at hZr hE hzl
        have hSS : ∀ W : World, AtC 52 W g #[.string reason, .slice a srcs.length c] → W.cell? ⟨g, 0, none⟩ = some (.string reason) ∧ W.cell? ⟨g, 1, none⟩ = some (.slice a srcs.length c) ∧ AtC 52 W g #[.string reason, .slice a srcs.length c] := fun W h => by
          obtain ⟨a0, a1⟩ := h.cells2
          exact ⟨a0, a1, h⟩
        go_wp2_with fail
        go_region_held3 (fun W => W.cell? ⟨g, 0, none⟩ = some (.string reason) ∧ W.cell? ⟨g, 1, none⟩ = some (.slice a srcs.length c) ∧ AtC 52 W g #[.string reason, .slice a srcs.length c]) (first | (go_keep; done) | exact hSS _ (AtC.drew (by go_split_ands; assumption)) | exact hSS _ (AtC.alloc (by go_split_ands; assumption) _) | exact hSS _ (AtC.oth (by go_split_ands; assumption) (by decide) (by assumption) (by omega)) | exact hSS _ (AtC.later (by go_split_ands; assumption) (by assumption)) | (go_split_ands; assumption)) (first | (go_at_call 66; refine (u8_g bo bo v5 ([] ++ bes srcs 4) [((reason.size : Nat) : Int)] #[.int .i64 (reason.size : Nat)] 1 _ w5 _ hO5 ?x1 ?x2 ?x3 rfl rfl ?x4 ?x5).mono ?_; (case x1 => go_grown); (case x2 => (repeat (first | with_reducible refine heap_at_drew ?_ | with_reducible exact heap_at_new _ _ _ (by first | rfl | (simp; done)) | with_reducible refine heap_at_old _ _ _ _ ?_))); (case x3 => have := hO5.lt; first | omega | (simp; omega)); (case x4 => simp [hbl]; omega); (case x5 => simp); rintro e w6 ⟨rfl, v6, hO6, h6, ho6⟩; have q6 := hO6.lt; have hb6 : Below g w w6 := Below.trans (by repeat (first | with_reducible exact hbb5 | with_reducible refine Below.drew ?_ | with_reducible refine Below.alloc ?_ (by first | omega | (simp; omega)) _)) (h6.mono (by omega)); have hY6 : PcAt w6 g2 ⟨0, 0, { data := #[] }⟩ := PcAt.others (by repeat (first | with_reducible exact hY5 | with_reducible refine PcAt.drew ?_ | with_reducible refine PcAt.alloc ?_ _)) (by omega) ho6) | (go_at_call 69; refine (hU.out _ _ ?xu).mono ?_; (case xu => first | rfl | omega | (rw [IntWalk.i64_in _ ⟨by omega, by omega⟩]; omega) | (simp; omega)); rintro e w' ⟨rfl, rfl⟩) | (go_at_call 68; refine (hZr.out _).mono ?_; rintro e w7 ⟨rfl, hz7⟩; have hO7 := OutAt.later (show OutAt _ bo bo v6 _ from hO6) hz7; have q7 := hO7.lt; have hb7 : Below g w w7 := hb6.trans (hz7.mono (by omega)); have hY7 : PcAt w7 g2 ⟨0, 0, { data := #[] }⟩ := PcAt.later hY6 hz7) | (go_at_call 67; refine (outRaw_g bo bo v6 ([] ++ bes srcs 4 ++ bes [((reason.size : Nat) : Int)] 1) [reason, ZS] #[.string reason, .string ZS] 2 _ w7 _ hO7 ?x1 ?x2 ?x3 rfl rfl ?x4 ?x5).mono ?_; (case x1 => go_grown); (case x2 => (repeat (first | with_reducible refine heap_at_drew ?_ | with_reducible exact heap_at_new _ _ _ (by first | rfl | (simp; done)) | with_reducible refine heap_at_old _ _ _ _ ?_))); (case x3 => first | omega | (simp; omega)); (case x4 => simp [hbl, bes_len]; omega); (case x5 => simp); rintro e w8 ⟨rfl, v8, hO8, h8, ho8⟩; have hb8 : Below g w w8 := Below.trans (by repeat (first | with_reducible exact hb7 | with_reducible refine Below.drew ?_ | with_reducible refine Below.alloc ?_ (by first | omega | (simp; omega)) _)) (h8.mono (by omega)); have hY8 : PcAt w8 g2 ⟨0, 0, { data := #[] }⟩ := PcAt.others (by repeat (first | with_reducible exact hY7 | with_reducible refine PcAt.drew ?_ | with_reducible refine PcAt.alloc ?_ _)) (by omega) ho8))
        all_goals
          go_wp2_with fail
          go_meet
          exact ⟨rfl, v8, by rw [hBL.out, hE.out]; simp only [List.append_assoc] at hO8 ⊢; exact hO8, by (first | assumption | (go_split_ands; assumption)), hY8, hb8⟩
    case rest =>
    obtain ⟨rfl, v6, hO6, hX6, hY6, hbb6⟩ := hcut
    rename World => w6
    clear hX5 hY5 hbb5 hO5 hg5 x0 x1 hBL hR0 hR1
    obtain ⟨x0, x1⟩ := hX6.cells2
    obtain ⟨y0, y1, y2, _⟩ := pcAt_S hY6
    have f0 : w6.frozen? ⟨g2, 0, none⟩ = false := by simp [World.frozen?, show w6.heap[g2]? = _ from hY6]
    have f1 : w6.frozen? ⟨g2, 1, none⟩ = false := by simp [World.frozen?, show w6.heap[g2]? = _ from hY6]
    have f2 : w6.frozen? ⟨g2, 2, none⟩ = false := by simp [World.frozen?, show w6.heap[g2]? = _ from hY6]
    have HBy := Lib.hid (bytes_any bo bo v6 _ w6 hO6)
    have HBd := Lib.hid (bytes_any bo bo v6 _ w6.drew hO6.drew)
    generalize ofL AL = RS at HBy HBd hKd
    go_wp2_with fail
    go_region_law (first | (go_simp; go_at_call 70; refine HBy.out.mono ?_; rintro e w' ⟨rfl, rfl⟩) | (go_simp; go_at_call 70; refine HBd.out.mono ?_; rintro e w' ⟨rfl, rfl⟩))
    all_goals
      have hz : PcAt (((w6.setCell ⟨g2, 0, none⟩ (.int .i64 (srcs.length : Nat))).setCell ⟨g2, 1, none⟩ (.int .i64 203)).setCell ⟨g2, 2, none⟩ (.string RS)) g2 ⟨(srcs.length : Nat), 203, RS⟩ := block_setCell (i := 2) (u := .string RS) (block_setCell (i := 1) (u := .int .i64 203) (block_setCell (i := 0) (u := .int .i64 (srcs.length : Nat)) hY6))
      have hbz := (((hbb6.setCell (p := ⟨g2, 0, none⟩) hgB (.int .i64 (srcs.length : Nat))).setCell (p := ⟨g2, 1, none⟩) hgB (.int .i64 203)).setCell (p := ⟨g2, 2, none⟩) hgB (.string RS))
      go_wp2
      generalize ((w6.setCell ⟨g2, 0, none⟩ (.int .i64 (srcs.length : Nat))).setCell ⟨g2, 1, none⟩ (.int .i64 203)).setCell ⟨g2, 2, none⟩ (.string RS) = wz at hz hbz ⊢
      obtain ⟨d0, d1, d2, _⟩ := pcAt_S hz
      refine bodyPost_ret (v := .agg #[.int .i64 (srcs.length : Nat), .int .i64 203, .string RS]) (by simp [results, Try.results24, go_sem, d0, d1, d2]) rfl ⟨by rw [hKd.out], by rw [HG.out]; first | exact hbz | exact hbz.drew⟩
  · have hqv : q = zeroPC := by rw [← hq]; unfold byP; rw [if_neg hm]
    subst hqv
    unfold byMay at hm
    clear hq HR
    obtain ⟨reason, srcs⟩ := y
    unfold zeroPC
    simp only at *
    have hbad : (31 : Int) < (srcs.length : Int) ∨ (¬ (31 : Int) < (srcs.length : Int) ∧ (255 : Int) < (reason.size : Int)) := by omega
    clear hm
    go_enter Try.func24, Try.ntmps24
    go_upto_region 1 with fail
    generalize (w.alloc (.cells #[.string reason, .slice a srcs.length c] 52)).alloc (.cells #[.int .i64 0, .int .i64 0, .string { data := #[] }] 33) = w2 at hX2 hY2 hb2 ⊢
    have hgB : w.heap.size ≤ w.heap.size + 1 := by omega
    generalize hg2 : w.heap.size + 1 = g2 at hY2 hgB ⊢
    generalize hg : w.heap.size = g at hX2 hb2 hgB ⊢
    have HG := Lib.hid hg
    clear hg2 hg
    obtain ⟨x0, x1⟩ := hX2.cells2
    obtain ⟨y0, y1, y2, _⟩ := pcAt_S hY2
    have f0 : w2.frozen? ⟨g2, 0, none⟩ = false := by simp [World.frozen?, show w2.heap[g2]? = _ from hY2]
    have f1 : w2.frozen? ⟨g2, 1, none⟩ = false := by simp [World.frozen?, show w2.heap[g2]? = _ from hY2]
    have f2 : w2.frozen? ⟨g2, 2, none⟩ = false := by simp [World.frozen?, show w2.heap[g2]? = _ from hY2]
    have hz : PcAt (((w2.setCell ⟨g2, 0, none⟩ (.int .i64 0)).setCell ⟨g2, 1, none⟩ (.int .i64 0)).setCell ⟨g2, 2, none⟩ (.string { data := #[] })) g2 ⟨0, 0, { data := #[] }⟩ := block_setCell (i := 2) (u := .string { data := #[] }) (block_setCell (i := 1) (u := .int .i64 0) (block_setCell (i := 0) (u := .int .i64 0) hY2))
    have hbz := (((hb2.setCell (p := ⟨g2, 0, none⟩) hgB (.int .i64 0)).setCell (p := ⟨g2, 1, none⟩) hgB (.int .i64 0)).setCell (p := ⟨g2, 2, none⟩) hgB (.string { data := #[] }))
    rcases hbad with k | ⟨k, k2⟩
    all_goals
      go_wp2
      generalize ((w2.setCell ⟨g2, 0, none⟩ (.int .i64 0)).setCell ⟨g2, 1, none⟩ (.int .i64 0)).setCell ⟨g2, 2, none⟩ (.string { data := #[] }) = wz at hz hbz ⊢
      obtain ⟨d0, d1, d2, _⟩ := pcAt_S hz
      refine bodyPost_ret (v := .agg #[.int .i64 0, .int .i64 0, .string { data := #[] }]) (by simp [results, Try.results24, go_sem, d0, d1, d2]) rfl ⟨rfl, by rw [HG.out]; exact hbz⟩
end Go.Proofs.Ytjoikidnnhjogaa

