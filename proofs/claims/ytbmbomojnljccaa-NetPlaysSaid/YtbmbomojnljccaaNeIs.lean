/- net: the law's Is. -/
import Derived.Test.YtbmbomojnljccaaNeZc
namespace Go.Proofs.Ytbmbomojnljccaa
open Go.RowKit Go.Maps
set_option linter.unusedVariables false
set_option linter.unusedSimpArgs false
/-- The paths, of the first so many, on which something is. -/
def nePq (x : NE) (a : Int) (k : Nat) : List Int := ((List.range k).map (fun (q : Nat) => (q : Int))).filter (fun p => decide (0 < (x.G a p).length))
theorem nePq_succ (x : NE) (a : Int) (k : Nat) : nePq x a (k + 1) = nePq x a k ++ (if 0 < (x.G a (k : Int)).length then [(k : Int)] else []) := by
  unfold nePq
  rw [List.range_succ, List.map_append, List.filter_append]
  congr 1
  by_cases h : 0 < (x.G a (k : Int)).length
  · simp [h]
  · simp [h]
theorem nePq_le (x : NE) (a : Int) (k : Nat) : (nePq x a k).length ≤ k := by
  unfold nePq
  refine Nat.le_trans (List.length_filter_le _ _) ?_
  simp
theorem nePq_all (x : NE) (a : Int) (h0 : x.G a 0 = []) (h16 : x.G a 16 = []) : nePq x a 17 = nePaths x a 15 := by
  rw [nePq_succ, if_neg (by rw [show ((16 : Nat) : Int) = 16 from rfl, h16]; simp), List.append_nil]
  unfold nePq nePaths
  rw [show (16 : Nat) = 15 + 1 from rfl, List.range_succ_eq_map, List.map_cons, List.filter_cons_of_neg (by rw [show ((0 : Nat) : Int) = 0 from rfl, h0]; simp), List.map_map]
  rfl
set_option maxRecDepth 100000 in
set_option maxHeartbeats 12800000 in
theorem neIsSame {w : World} {base gn n : Nat} {x : NE} {vx : Value} {l : List OD} (hI : NIn w base gn n x) (he : NeEq x l) (hL : OwnE w 0 84 3 vx l.length (odV l)) (hl : l.length ≤ 65535) :
    Calls Try.prog 10 #[.pointer (some ⟨gn, 0, none⟩), neRv (am 1 x.m 1024) (am 1 x.b 16777216) vx (x.c 0) (x.c 1) (x.c 2) (x.c 3) (x.c 4) (x.c 5)] w fun e w' => e = .returned (.bool true) ∧ Below w.heap.size w w' := by
  unfold neRv
  obtain ⟨ax, cap, rfl⟩ := hL.formG
  have hX0 := atQ_new 34 w w.heap.size #[.int .i64 (am 1 x.m 1024), .int .i64 (am 1 x.b 16777216), .slice ax l.length cap, .int .i64 (x.c 0), .int .i64 (x.c 1), .int .i64 (x.c 2), .int .i64 (x.c 3), .int .i64 (x.c 4), .int .i64 (x.c 5)] rfl
  have hb : Below w.heap.size w (w.alloc (.cells #[.int .i64 (am 1 x.m 1024), .int .i64 (am 1 x.b 16777216), .slice ax l.length cap, .int .i64 (x.c 0), .int .i64 (x.c 1), .int .i64 (x.c 2), .int .i64 (x.c 3), .int .i64 (x.c 4), .int .i64 (x.c 5)] 34)) := (Below.refl _ _).alloc (Nat.le_refl _) _
  go_enter Try.func10, Try.ntmps10
  go_upto_region 1 with fail
  generalize (w.alloc (.cells #[.int .i64 (am 1 x.m 1024), .int .i64 (am 1 x.b 16777216), .slice ax l.length cap, .int .i64 (x.c 0), .int .i64 (x.c 1), .int .i64 (x.c 2), .int .i64 (x.c 3), .int .i64 (x.c 4), .int .i64 (x.c 5)] 34)) = w2 at *
  have hI2 := hI.later hb
  have hL2 := hL.later hb
  generalize hg0 : w.heap.size = g0 at *
  have HG := Lib.hid hg0
  clear hg0 hI hL
  have hXd := hX0.drew
  have hId := hI2.drew
  have hLd := hL2.later (Below.refl _ _).drew
  have hbd := hb.drew
  have hSd := hXd.cells9
  refine wp_region_noPanic ?_
  refine ordM_begin (fun W : World => W.cell? ⟨g0, 0, none⟩ = some (.int .i64 (am 1 x.m 1024)) ∧ W.cell? ⟨g0, 1, none⟩ = some (.int .i64 (am 1 x.b 16777216)) ∧ W.cell? ⟨g0, 2, none⟩ = some (.slice ax l.length cap) ∧ W.cell? ⟨g0, 3, none⟩ = some (.int .i64 (x.c 0)) ∧ W.cell? ⟨g0, 4, none⟩ = some (.int .i64 (x.c 1)) ∧ W.cell? ⟨g0, 5, none⟩ = some (.int .i64 (x.c 2)) ∧ W.cell? ⟨g0, 6, none⟩ = some (.int .i64 (x.c 3)) ∧ W.cell? ⟨g0, 7, none⟩ = some (.int .i64 (x.c 4)) ∧ W.cell? ⟨g0, 8, none⟩ = some (.int .i64 (x.c 5))) (fun i => false) (by kernel_rfl) hSd ?_
  have hsd : g0 < w2.drew.heap.size := hXd.lt
  generalize w2.drew = wd at *
  clear hX0 hI2 hL2 hb
  refine ordM_take 0 ?vq1 rfl (by kernel_rfl) (by kernel_rfl) (by kernel_rfl) (by kernel_rfl) (fun _ _ _ h => h) (by rfl) ?hq1 (by assumption) ?rq1
  case hq1 => (intro W hSw; (try dsimp only at hSw); go_simp <;> with_reducible rfl)
  (try simp only [Act.put, List.setIfInBounds_toArray, List.set_cons_zero, List.set_cons_succ])
  refine ordM_take 2 ?vq2 rfl (by kernel_rfl) (by kernel_rfl) (by kernel_rfl) (by kernel_rfl) (fun _ _ _ h => h) (by rfl) ?hq2 (by assumption) ?rq2
  case hq2 => (intro W hSw; (try dsimp only at hSw); go_simp <;> with_reducible rfl)
  (try simp only [Act.put, List.setIfInBounds_toArray, List.set_cons_zero, List.set_cons_succ])
  refine ordM_take 3 ?vq3 rfl (by kernel_rfl) (by kernel_rfl) (by kernel_rfl) (by kernel_rfl) (fun _ _ _ h => h) (by rfl) ?hq3 (by assumption) ?rq3
  case hq3 => (intro W hSw; (try dsimp only at hSw); go_simp <;> with_reducible rfl)
  (try simp only [Act.put, List.setIfInBounds_toArray, List.set_cons_zero, List.set_cons_succ])
  refine ordM_ready [1] (by kernel_rfl) (by simp) ?_
  refine AllReadyM.cons rfl (fun K hK => ?_) AllReadyM.nil
  go_simp
  go_at_call 19
  refine (neCounts_any hId).mono ?_
  rintro e w3 ⟨rfl, hb3⟩
  have hS3 := (hXd.later hb3).cells9
  (try go_wp2_with fail)
  refine hK.out _ _ (fun _ => hS3) ?_
  clear hK K
  (try simp only [Act.put, List.setIfInBounds_toArray, List.set_cons_zero, List.set_cons_succ])
  refine ordM_take 4 ?vq4 rfl (by kernel_rfl) (by kernel_rfl) (by kernel_rfl) (by kernel_rfl) (fun _ _ _ h => h) (by rfl) ?hq4 (by assumption) ?rq4
  case hq4 => (intro W hSw; (try dsimp only at hSw); go_simp <;> with_reducible rfl)
  (try simp only [Act.put, List.setIfInBounds_toArray, List.set_cons_zero, List.set_cons_succ])
  refine ordM_done (by kernel_rfl) ?_ _
  refine NoPanic.normal ?_
  have hX3 := hXd.later hb3
  have hI3 := hId.later hb3
  have hL3 := hLd.later hb3
  have hbw := hbd.trans (hb3.mono (Nat.le_of_lt hsd))
  clear hXd hId hLd hbd hSd hS3 hb3 hsd
  (try simp only [beq_self_eq_true])
  have HX := Lib.hid (fun W (h : Below w3.heap.size w3 W) => hX3.later h)
  have HI := Lib.hid (fun W (h : Below w3.heap.size w3 W) => hI3.later h)
  have HL := Lib.hid (fun W (h : Below w3.heap.size w3 W) => hL3.later h)
  have hgb : g0 ≤ w3.heap.size := Nat.le_of_lt hX3.lt
  have HEQ := Lib.hid he.g
  have HPL := Lib.hid hI3.pl
  have HLN := Lib.hid hI3.ln
  clear hX3 hI3 hL3 he
  go_wp2_with fail
  go_loopw [5] (fun wy wr => ∃ k : Nat, k ≤ 4 ∧ wy = .int .i64 ((k : Int) - 1) ∧ Below w3.heap.size w3 wr) (fun wy _ => (3 - intOf wy).toNat)
  case atStart => exact ⟨0, by omega, rfl, Below.refl _ _⟩
  case round =>
    obtain ⟨wk, hwk, rfl, hb4⟩ := hrel
    by_cases hlt : wk < 4
    · have hdw : decide ((wk : Int) - 1 ≤ 2) = true := decide_eq_true (by omega)
      go_wp2_with fail
      go_loopw [6, 7] (fun ps pt W5 => ∃ pq : Nat, pq ≤ 17 ∧ pt = .int .i64 pq ∧ OwnE W5 w3.heap.size 3 1 ps (nePq x ((wk : Int) - 1) pq).length ((nePq x ((wk : Int) - 1) pq).map (Value.int .i64)) ∧ Below w3.heap.size w3 W5) (fun _ pt _ => 17 - (intOf pt).toNat)
      case atStart => exact ⟨0, by omega, rfl, ownE_nil _ _ _ _, hb4⟩
      case round =>
        obtain ⟨pq, hpq, rfl, hO, hb5⟩ := hrel
        by_cases hlp : pq < 17
        · have hdp : decide ((pq : Int) ≤ 16) = true := decide_eq_true (by omega)
          have hwf : wf2 ((wk : Int) - 1) (pq : Int) := by
            constructor <;> simp [Lit.wf, IntKind.min, IntKind.max, IntKind.signed, IntKind.bits] <;> omega
          have HE : Hid (odG l ((wk : Int) - 1) (pq : Int) = x.G ((wk : Int) - 1) (pq : Int)) := Lib.hid (HEQ.out _ _)
          have HPS := Lib.hid (nePq_succ x ((wk : Int) - 1) pq)
          have hple := nePq_le x ((wk : Int) - 1) pq
          have hgl := HLN.out ((wk : Int) - 1) (pq : Int)
          go_upto_region 10 with fail
          have hXe := (HX.out wr hb5).drew
          have hIe := (HI.out wr hb5).drew
          have hLe := (HL.out wr hb5).later (Below.refl _ _).drew
          have hOe := hO.later (Below.refl _ _).drew
          have hbe : Below w3.heap.size w3 wr.drew := hb5.drew
          have hSe := hXe.cells9
          refine wp_region_noPanic ?_
          refine ordM_begin (fun W : World => W.cell? ⟨g0, 0, none⟩ = some (.int .i64 (am 1 x.m 1024)) ∧ W.cell? ⟨g0, 1, none⟩ = some (.int .i64 (am 1 x.b 16777216)) ∧ W.cell? ⟨g0, 2, none⟩ = some (.slice ax l.length cap) ∧ W.cell? ⟨g0, 3, none⟩ = some (.int .i64 (x.c 0)) ∧ W.cell? ⟨g0, 4, none⟩ = some (.int .i64 (x.c 1)) ∧ W.cell? ⟨g0, 5, none⟩ = some (.int .i64 (x.c 2)) ∧ W.cell? ⟨g0, 6, none⟩ = some (.int .i64 (x.c 3)) ∧ W.cell? ⟨g0, 7, none⟩ = some (.int .i64 (x.c 4)) ∧ W.cell? ⟨g0, 8, none⟩ = some (.int .i64 (x.c 5))) (fun i => false) (by kernel_rfl) hSe ?_
          generalize wr.drew = we at *
          refine ordM_take 0 ?vq5 rfl (by kernel_rfl) (by kernel_rfl) (by kernel_rfl) (by kernel_rfl) (fun _ _ _ h => h) (by rfl) ?hq5 (by assumption) ?rq5
          case hq5 => (intro W hSw; (try dsimp only at hSw); go_simp <;> with_reducible rfl)
          (try simp only [Act.put, List.setIfInBounds_toArray, List.set_cons_zero, List.set_cons_succ])
          refine ordM_take 1 ?vq6 rfl (by kernel_rfl) (by kernel_rfl) (by kernel_rfl) (by kernel_rfl) (fun _ _ _ h => h) (by rfl) ?hq6 (by assumption) ?rq6
          case hq6 => (intro W hSw; (try dsimp only at hSw); go_simp <;> with_reducible rfl)
          (try simp only [Act.put, List.setIfInBounds_toArray, List.set_cons_zero, List.set_cons_succ])
          refine ordM_take 2 ?vq7 rfl (by kernel_rfl) (by kernel_rfl) (by kernel_rfl) (by kernel_rfl) (fun _ _ _ h => h) (by rfl) ?hq7 (by assumption) ?rq7
          case hq7 => (intro W hSw; (try dsimp only at hSw); go_simp <;> with_reducible rfl)
          (try simp only [Act.put, List.setIfInBounds_toArray, List.set_cons_zero, List.set_cons_succ])
          refine ordM_take 4 ?vq8 rfl (by kernel_rfl) (by kernel_rfl) (by kernel_rfl) (by kernel_rfl) (fun _ _ _ h => h) (by rfl) ?hq8 (by assumption) ?rq8
          case hq8 => (intro W hSw; (try dsimp only at hSw); go_simp <;> with_reducible rfl)
          (try simp only [Act.put, List.setIfInBounds_toArray, List.set_cons_zero, List.set_cons_succ])
          refine ordM_take 5 ?vq9 rfl (by kernel_rfl) (by kernel_rfl) (by kernel_rfl) (by kernel_rfl) (fun _ _ _ h => h) (by rfl) ?hq9 (by assumption) ?rq9
          case hq9 => (intro W hSw; (try dsimp only at hSw); go_simp <;> with_reducible rfl)
          (try simp only [Act.put, List.setIfInBounds_toArray, List.set_cons_zero, List.set_cons_succ])
          refine ordM_take 6 ?vq10 rfl (by kernel_rfl) (by kernel_rfl) (by kernel_rfl) (by kernel_rfl) (fun _ _ _ h => h) (by rfl) ?hq10 (by assumption) ?rq10
          case hq10 => (intro W hSw; (try dsimp only at hSw); go_simp <;> with_reducible rfl)
          (try simp only [Act.put, List.setIfInBounds_toArray, List.set_cons_zero, List.set_cons_succ])
          refine ordM_ready [3] (by kernel_rfl) (by simp) ?_
          refine AllReadyM.cons rfl (fun K hK => ?_) AllReadyM.nil
          go_simp
          go_at_call 29
          refine (neAll_any hIe hwf).mono ?_
          rintro e w6 ⟨v6, rfl, hA6, hb6⟩
          have hX6 := hXe.later hb6
          have hI6 := hIe.later hb6
          have hL6 := hLe.later hb6
          have hO6 := hOe.later hb6
          have hbf := hbe.trans (hb6.mono hbe.size)
          have hS6 := hX6.cells9
          (try go_wp2_with fail)
          refine hK.out _ _ (fun _ => hS6) ?_
          clear hK K
          (try simp only [Act.put, List.setIfInBounds_toArray, List.set_cons_zero, List.set_cons_succ])
          refine ordM_ready [7] (by kernel_rfl) (by simp) ?_
          refine AllReadyM.cons rfl (fun K hK => ?_) AllReadyM.nil
          go_simp
          go_at_call 30
          refine (refNeAll_any (am 1 x.m 1024) (am 1 x.b 16777216) (x.c 0) (x.c 1) (x.c 2) (x.c 3) (x.c 4) (x.c 5) ((wk : Int) - 1) (pq : Int) hL6 hl).mono ?_
          rintro e w7 ⟨v7, rfl, hA7, hb7⟩
          have hX7 := hX6.later hb7
          have hI7 := hI6.later hb7
          have hO7 := hO6.later hb7
          have hA67 := hA6.later hb7
          have hbg := hbf.trans (hb7.mono hbf.size)
          have hS7 := hX7.cells9
          (try go_wp2_with fail)
          refine hK.out _ _ (fun _ => hS7) ?_
          clear hK K
          (try simp only [Act.put, List.setIfInBounds_toArray, List.set_cons_zero, List.set_cons_succ])
          refine ordM_take 8 ?vq11 rfl (by kernel_rfl) (by kernel_rfl) (by kernel_rfl) (by kernel_rfl) (fun _ _ _ h => h) (by rfl) ?hq11 (by assumption) ?rq11
          case hq11 => (intro W hSw; (try dsimp only at hSw); go_simp <;> with_reducible rfl)
          (try simp only [Act.put, List.setIfInBounds_toArray, List.set_cons_zero, List.set_cons_succ])
          refine ordM_take 9 ?vq12 rfl (by kernel_rfl) (by kernel_rfl) (by kernel_rfl) (by kernel_rfl) (fun _ _ _ h => h) (by rfl) ?hq12 (by assumption) ?rq12
          case hq12 => (intro W hSw; (try dsimp only at hSw); go_simp <;> with_reducible rfl)
          (try simp only [Act.put, List.setIfInBounds_toArray, List.set_cons_zero, List.set_cons_succ])
          refine ordM_done (by kernel_rfl) ?_ _
          refine NoPanic.normal ?_
          clear hXe hIe hLe hOe hbe hSe hX6 hI6 hL6 hO6 hbf hS6 hA6 hb6 hb7
          rw [HE.out] at hA7
          obtain ⟨xa, xc, rfl, hll, hlm, hxcell⟩ := hA67.tx
          obtain ⟨ya, yc, rfl, _, _, hycell⟩ := hA7.tx
          have HLQ := Lib.hid (neLen_q hI7 hwf)
          clear hll hlm hxcell hycell
          have HXC := Lib.hid (fun (W : World) (h : Below w7.heap.size w7 W) => (hA67.later h))
          have HYC := Lib.hid (fun (W : World) (h : Below w7.heap.size w7 W) => (hA7.later h))
          generalize x.G ((wk : Int) - 1) (pq : Int) = G at *
          go_wp2_with fail
          refine HLQ.out.mono ?_
          rintro e w8 ⟨rfl, hq⟩
          subst hq
          go_wp2_with fail
          go_loopw [48] (fun iv W9 => ∃ k : Nat, k ≤ G.length ∧ iv = .int .i64 k ∧ Below w8.heap.size w8 W9) (fun iv _ => G.length - (intOf iv).toNat)
          case atStart => exact ⟨0, Nat.zero_le _, rfl, Below.refl _ _⟩
          case round =>
            obtain ⟨k, hk, rfl, hb9⟩ := hrel
            by_cases hlk : k < G.length
            · obtain ⟨t, ht⟩ : ∃ t, G[k]? = some t := ⟨_, List.getElem?_eq_getElem hlk⟩
              obtain ⟨xa1, xc1, ex, _, _, hcx⟩ := (HXC.out wr hb9).tx
              obtain ⟨ya1, yc1, ey, _, _, hcy⟩ := (HYC.out wr hb9).tx
              cases ex
              cases ey
              obtain ⟨gx, ox, rfl, hx1⟩ := hcx k t ht
              obtain ⟨gy, oy, rfl, hy1⟩ := hcy k t ht
              have hse : (t.toList == t.toList) = true := beq_self_eq_true _
              go_upto_region 16 with fail
              go_quiet (fail)
              go_wp2_with fail
              go_roundw
              case rel => exact ⟨k + 1, by omega, by go_num, below_drewN hb9 _⟩
              case measure => simp [intOf]; omega
            · obtain rfl : k = G.length := by omega
              have hO9 := hO7.later hb9
              have hbh := hbg.trans (hb9.mono hbg.size)
              clear HXC HYC hA67 hA7 hO7 hX7 hI7 hS7 HLQ
              by_cases hG0 : 0 < G.length
              · have hG1 : decide ((0 : Int) < (G.length : Int)) = true := decide_eq_true (by omega)
                obtain ⟨i0, hi, hz0, hz1, hz2⟩ := info_parts info64g
                go_wp2_with (at_builtin; refine append_recG (W := w3) rfl (.tmp 64) (.tmp 66) 57 rfl 3 i0 (.int .i64 0) 1 8 Try.underlying57 hi hz0 hz1 hz2 rfl (by decide) w3.heap.size _ _ _ rfl hO9 #[.int .i64 (pq : Int)] rfl rfl ?d0 ?d1 ?d2 hbh.size w3.heap.size (Nat.le_refl _) hbh ?_)
                case d0 => rfl
                case d1 => unfold maxLen; omega
                case d2 => omega
                intro v5 w5 hO5 hb5' _ _
                go_wp2_with fail
                go_roundw
                case rel => exact ⟨pq + 1, by omega, by go_num, by rw [HPS.out, if_pos hG0, List.length_append, List.map_append]; exact hO5, hb5'⟩
                case measure => simp [intOf]; omega
              · have hG1 : decide ((0 : Int) < (G.length : Int)) = false := decide_eq_false (by omega)
                go_wp2_with fail
                go_roundw
                case rel => exact ⟨pq + 1, by omega, by go_num, by rw [HPS.out, if_neg hG0, List.append_nil]; exact hO9, hbh⟩
                case measure => simp [intOf]; omega
        · obtain rfl : pq = 17 := by omega
          have h0 : x.G ((wk : Int) - 1) 0 = [] := by
            rcases List.eq_nil_or_concat (x.G ((wk : Int) - 1) 0) with h | ⟨u, v, h⟩
            · exact h
            · have := (HPL.out ((wk : Int) - 1) 0 (by rw [h]; simp)).2; omega
          have h16 : x.G ((wk : Int) - 1) 16 = [] := by
            rcases List.eq_nil_or_concat (x.G ((wk : Int) - 1) 16) with h | ⟨u, v, h⟩
            · exact h
            · have := (HPL.out ((wk : Int) - 1) 16 (by rw [h]; simp)).2; omega
          have hple := nePaths_le x ((wk : Int) - 1) 15
          rw [nePq_all x _ h0 h16] at hO
          have hwf1 : (Lit.int .i64 ((wk : Int) - 1)).wf = true := by
            simp [Lit.wf, IntKind.min, IntKind.max, IntKind.signed, IntKind.bits]; omega
          have HPT := Lib.hid (nePaths_any (HI.out wr hb5) hwf1)
          have hwr1 : IntKind.i64.wrap ((wk : Int) - 1 + 1) = ((wk + 1 : Nat) : Int) - 1 := by rw [IntWalk.i64_in _ ⟨by omega, by omega⟩]; omega
          generalize nePaths x ((wk : Int) - 1) 15 = zs at *
          go_wp2_with fail
          refine HPT.out.mono ?_
          rintro e w6 ⟨v6, rfl, hP6, hb6⟩
          obtain ⟨pa, pc, rfl, _, _, _, hR6⟩ := hP6.intsG
          obtain ⟨qa, qc, rfl, _, _, _, hR7⟩ := (hO.later hb6).intsG
          have hb56 := hb5.trans (hb6.mono hb5.size)
          go_wp2_with fail
          refine (sameIntG_any zs pa qa _ _ _ w6 rfl hR6 hR7 (by omega)).mono ?_
          rintro e w7 ⟨rfl, hb7⟩
          have hb57 := hb56.trans (hb7.mono hb56.size)
          go_wp2_with fail
          go_roundw
          case rel => exact ⟨wk + 1, by omega, by rw [show ((wk + 1 : Nat) : Int) - 1 = (wk : Int) from by omega], hb57⟩
          case measure => simp [intOf]; omega
    · obtain rfl : wk = 4 := by omega
      go_wp2_with fail
      go_ret
      exact ⟨rfl, by rw [HG.out]; exact hbw.trans (hb4.mono hgb)⟩
end Go.Proofs.Ytbmbomojnljccaa
