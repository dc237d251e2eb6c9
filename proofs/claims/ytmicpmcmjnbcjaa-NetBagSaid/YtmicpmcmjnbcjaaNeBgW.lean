/- NetBag: the walk. -/
import Derived.Test.YtmicpmcmjnbcjaaNeBgM
import Derived.Test.YtmicpmcmjnbcjaaCut
import Derived.Test.YtmicpmcmjnbcjaaRecs
namespace Go.Proofs.Ytmicpmcmjnbcjaa
open Go.RowKit Go.Maps
set_option linter.unusedVariables false
set_option linter.unusedSimpArgs false
def neActP : List (Value → Prop) := [isNum .i64, isNum .i64, isNum .i64, isNum .i64, isNum .i64, isNum .u32, isText]
theorem neAct_at {w wr : World} {a : Option Addr} {n k : Nat} (h : Recs neActP w a n) (hb : Below w.heap.size w wr) (hk : k < n) :
    ∃ b off, a = some ⟨b, off, none⟩ ∧ b < w.heap.size ∧ ∃ (kd wy pt ix at_ mk : Int) (d : ByteArray), (Lit.int .i64 wy).wf = true ∧ (Lit.int .i64 pt).wf = true ∧ (Lit.int .i64 ix).wf = true ∧ (Lit.int .i64 at_).wf = true ∧ (Lit.int .u32 mk).wf = true ∧ d.size ≤ 9223372036854775807 ∧ wr.cell? ⟨b, off + k * 7, none⟩ = some (.int .i64 kd) ∧ wr.cell? ⟨b, off + k * 7 + 1, none⟩ = some (.int .i64 wy) ∧ wr.cell? ⟨b, off + k * 7 + 2, none⟩ = some (.int .i64 pt) ∧ wr.cell? ⟨b, off + k * 7 + 3, none⟩ = some (.int .i64 ix) ∧ wr.cell? ⟨b, off + k * 7 + 4, none⟩ = some (.int .i64 at_) ∧ wr.cell? ⟨b, off + k * 7 + 5, none⟩ = some (.int .u32 mk) ∧ wr.cell? ⟨b, off + k * 7 + 6, none⟩ = some (.string d) := by
  rcases h with h | ⟨b, off, rfl, hlt, hc⟩
  · omega
  · obtain ⟨v0, h0, kd, rfl, _⟩ := hc k hk 0 _ rfl
    obtain ⟨v1, h1, wy, rfl, q1⟩ := hc k hk 1 _ rfl
    obtain ⟨v2, h2, pt, rfl, q2⟩ := hc k hk 2 _ rfl
    obtain ⟨v3, h3, ix, rfl, q3⟩ := hc k hk 3 _ rfl
    obtain ⟨v4, h4, at_, rfl, q4⟩ := hc k hk 4 _ rfl
    obtain ⟨v5, h5, mk, rfl, q5⟩ := hc k hk 5 _ rfl
    obtain ⟨v6, h6, d, rfl, wd⟩ := hc k hk 6 _ rfl
    have e := fun i => hb.cell (p := ⟨b, off + k * 7 + i, none⟩) hlt
    refine ⟨b, off, rfl, hlt, kd, wy, pt, ix, at_, mk, d, q1, q2, q3, q4, q5, by unfold maxLen at wd; omega, ?_, ?_, ?_, ?_, ?_, ?_, ?_⟩
    · rw [hb.cell (p := ⟨b, off + k * 7, none⟩) hlt]; exact h0
    · rw [e 1]; exact h1
    · rw [e 2]; exact h2
    · rw [e 3]; exact h3
    · rw [e 4]; exact h4
    · rw [e 5]; exact h5
    · rw [e 6]; exact h6
theorem AtQ.cells7 {T : TypeId} {W : World} {g : Nat} {c0 c1 c2 c3 c4 c5 c6 : Value} (h : AtQ T W g #[c0, c1, c2, c3, c4, c5, c6]) : W.cell? ⟨g, 0, none⟩ = some c0 ∧ W.cell? ⟨g, 1, none⟩ = some c1 ∧ W.cell? ⟨g, 2, none⟩ = some c2 ∧ W.cell? ⟨g, 3, none⟩ = some c3 ∧ W.cell? ⟨g, 4, none⟩ = some c4 ∧ W.cell? ⟨g, 5, none⟩ = some c5 ∧ W.cell? ⟨g, 6, none⟩ = some c6 := by
  have f := fun i => h.cell i
  exact ⟨by simpa using f 0, by simpa using f 1, by simpa using f 2, by simpa using f 3, by simpa using f 4, by simpa using f 5, by simpa using f 6⟩
theorem neConv (W : World) (b : Nat) (x y : Int) (h : W.heap[b]? = some (.cells #[.int .u8 x, .int .u8 y] 5 (0, 0))) : Sem.run Try.prog (convert 47 9 (.slice (some ⟨b, 0, none⟩) 2 2)) W = Result.ok (.string (strOfNums [x, y])) W := by
  refine run_convert_bytes_arg (P := Try.prog) _ 47 5 Try.underlying47 Try.underlying5 b 0 2 2 [x, y] rfl (fun i hi => ?_) 9 Try.underlying9
  match i, hi with
  | 0, _ => have := cell_of_row W b 0 _ _ (0, 0) h; simpa using this
  | 1, _ => have := cell_of_row W b 1 _ _ (0, 0) h; simpa using this
theorem neNm_size (a p : Int) : (neNm a p).size = 2 := by unfold neNm; rw [strOfNums_size]; rfl
theorem neCutB (s : ByteArray) (m : Nat) : (cutB s m).size ≤ m := by
  unfold cutB
  split
  · rw [ByteArray.size_extract]; omega
  · omega
namespace netBag
set_option maxRecDepth 100000 in
set_option maxHeartbeats 12800000 in
theorem walk (a0 : Int) (p1 : Option Addr) (len1 cap1 : Nat) (w0 : (Lit.int .i64 a0).wf = true) (w : World) (w1 : Recs neActP w p1 len1) (hl1 : len1 ≤ 9223372036854775807) :
    Calls Try.prog 4 #[.int .i64 a0, .slice p1 len1 cap1] w fun e w' => e = .returned (.bool true) ∧ Below w.heap.size w w' := by
  clear w0
  have hm1 : ∀ z : Int, bits .and .i64 z 1 = z % 2 := fun z => i64_mask z 1 (by omega)
  have hm3 : ∀ z : Int, bits .and .i64 z 3 = z % 4 := fun z => i64_mask z 2 (by omega)
  have HACT := Lib.hid (fun (k : Nat) (hk : k < len1) (W : World) (hb : Below w.heap.size w W) => neAct_at w1 hb hk)
  clear w1
  go_enter Try.func4, Try.ntmps4
  go_wp2_with fail
  refine (neAwake_any w).mono ?_
  rintro e wa ⟨rfl, hba⟩
  go_wp2_with fail
  refine (neNew_any a0 1048576 wa).mono ?_
  rintro e wb ⟨gn, rfl, hIb, hkb⟩
  have hg0 : w.heap.size ≤ wa.heap.size := hba.size
  have hb2 := hba.trans (hkb.mono hg0)
  have hal : Below wb.heap.size wb (wb.alloc (.map #[] 0)) := (Below.refl _ _).alloc (Nat.le_refl _) _
  have hO0 : BagIn w (wb.alloc (.map #[] 0)) w.heap.size wa.heap.size gn wb.heap.size 0 0 (neNew a0 1048576) (fun _ => False) 0 0 := by
    have hgb := Nat.le_trans hg0 hkb.size
    refine ⟨hIb.later hal, mapT_new wb, fun e => absurd (hIb.foot_lt e).2 (Nat.lt_irrefl _), hb2.trans (hal.mono hgb), hg0, hgb, fun _ => ⟨Int.le_refl _, Int.le_refl _⟩, ?_, fun a p t ht => (by cases ht)⟩
    unfold NeBal
    simp [neNew, neT]
  have hmm := @run_makeMap Try.prog
  go_upto_region 7 with fail
  clear hmm
  generalize (wb.alloc (.map #[] 0)) = wc at hO0 ⊢
  generalize wb.heap.size = gm at hO0 ⊢
  generalize neNew a0 1048576 = x0 at hO0
  generalize hg : w.heap.size = g at hO0
  generalize wa.heap.size = B at hO0
  have HG := Lib.hid hg
  clear hg hIb hkb hba hg0 hal hb2
  go_wp2_with fail
  go_loopw [7, 8] (fun s7 s8 wr => ∃ (k n n2 : Nat) (x : NE) (P : ByteArray → Prop) (lost : Int), k ≤ len1 ∧ k ≤ 50 ∧ n ≤ k ∧ n2 ≤ k ∧ s8 = .int .i64 k ∧ s7 = .int .i64 lost ∧ 0 ≤ lost ∧ lost ≤ k ∧ Hid (BagIn w wr g B gn gm n n2 x P k lost)) (fun _ s8 _ => 50 - (intOf s8).toNat)
  case atStart => exact ⟨0, 0, 0, x0, _, 0, Nat.zero_le _, by omega, Nat.le_refl _, Nat.le_refl _, rfl, rfl, Int.le_refl _, Int.le_refl _, Lib.hid hO0⟩
  case round =>
    obtain ⟨k, n, n2, x, P, lost, hk, hk50, hn, hn2, rfl, rfl, hl0, hl2, HI⟩ := hrel
    clear hO0
    by_cases hlt : k < len1 ∧ k < 50
    · obtain ⟨hlt, hlt50⟩ := hlt
      obtain ⟨ab, off, rfl, habl, kd, wy, pt, ix, aa, mk, d, q1, q2, q3, q4, q5, wds, ha0, ha1, ha2, ha3, ha4, ha5, ha6⟩ := HACT.out k hlt wr (by rw [HG.out]; exact HI.out.bel)
      have hY := atQ_new 40 wr wr.heap.size #[.int .i64 kd, .int .i64 wy, .int .i64 pt, .int .i64 ix, .int .i64 aa, .int .u32 mk, .string d] rfl
      have hal : Below wr.heap.size wr (wr.alloc (.cells #[.int .i64 kd, .int .i64 wy, .int .i64 pt, .int .i64 ix, .int .i64 aa, .int .u32 mk, .string d] 40)) := (Below.refl _ _).alloc (Nat.le_refl _) _
      have hJ := HI.out.later hal
      go_upto_region 12 with fail
      generalize (wr.alloc (.cells #[.int .i64 kd, .int .i64 wy, .int .i64 pt, .int .i64 ix, .int .i64 aa, .int .u32 mk, .string d] 40)) = w2 at hY hJ ⊢
      generalize wr.heap.size = ga at hY ⊢
      clear hal HI ha0 ha1 ha2 ha3 ha4 ha5 ha6
      have hJd := hJ.later (Below.refl _ _).drew
      have hYd := hY.drew
      obtain ⟨d0, d1, d2, d3, _, _, d6⟩ := hYd.cells7
      have hS := And.intro d1 d2
      refine wp_region_noPanic ?_
      refine ordM_begin (fun W : World => W.cell? ⟨ga, 1, none⟩ = some (.int .i64 wy) ∧ W.cell? ⟨ga, 2, none⟩ = some (.int .i64 pt)) (fun i => false) (by kernel_rfl) hS ?_
      refine ordM_take 0 ?vq1 rfl (by kernel_rfl) (by kernel_rfl) (by kernel_rfl) (by kernel_rfl) (fun _ _ _ h => h) (by rfl) ?hq1 (by assumption) ?rq1
      case hq1 => (intro W hSw; (try dsimp only at hSw); go_simp <;> with_reducible rfl)
      (try simp only [Act.put, List.setIfInBounds_toArray, List.set_cons_zero, List.set_cons_succ])
      refine ordM_take 1 ?vq2 rfl (by kernel_rfl) (by kernel_rfl) (by kernel_rfl) (by kernel_rfl) (fun _ _ _ h => h) (by rfl) ?hq2 (by assumption) ?rq2
      case hq2 => (intro W hSw; (try dsimp only at hSw); go_simp <;> with_reducible rfl)
      (try simp only [Act.put, List.setIfInBounds_toArray, List.set_cons_zero, List.set_cons_succ])
      refine ordM_take 2 ?vq3 rfl (by kernel_rfl) (by kernel_rfl) (by kernel_rfl) (by kernel_rfl) (fun _ _ _ h => h) (by rfl) ?hq3 (by assumption) ?rq3
      case hq3 => (intro W hSw; (try dsimp only at hSw); go_simp <;> with_reducible rfl)
      (try simp only [Act.put, List.setIfInBounds_toArray, List.set_cons_zero, List.set_cons_succ])
      refine ordM_take 3 ?vq4 rfl (by kernel_rfl) (by kernel_rfl) (by kernel_rfl) (by kernel_rfl) (fun _ _ _ h => h) (by rfl) ?hq4 (by assumption) ?rq4
      case hq4 => (intro W hSw; (try dsimp only at hSw); go_simp <;> with_reducible rfl)
      (try simp only [Act.put, List.setIfInBounds_toArray, List.set_cons_zero, List.set_cons_succ])
      refine ordM_take 4 ?vq5 rfl (by kernel_rfl) (by kernel_rfl) (by kernel_rfl) (by kernel_rfl) (fun _ _ _ h => h) (by rfl) ?hq5 (by assumption) ?rq5
      case hq5 => (intro W hSw; (try dsimp only at hSw); go_simp <;> with_reducible rfl)
      (try simp only [Act.put, List.setIfInBounds_toArray, List.set_cons_zero, List.set_cons_succ])
      refine ordM_take 5 ?vq6 rfl (by kernel_rfl) (by kernel_rfl) (by kernel_rfl) (by kernel_rfl) (fun _ _ _ h => h) (by rfl) ?hq6 (by assumption) ?rq6
      case hq6 => (intro W hSw; (try dsimp only at hSw); go_simp <;> with_reducible rfl)
      (try simp only [Act.put, List.setIfInBounds_toArray, List.set_cons_zero, List.set_cons_succ])
      refine ordM_take 6 ?vq7 rfl (by kernel_rfl) (by kernel_rfl) (by kernel_rfl) (by kernel_rfl) (fun _ _ _ h => h) (by rfl) ?hq7 (by assumption) ?rq7
      case hq7 => (intro W hSw; (try dsimp only at hSw); go_simp <;> with_reducible rfl)
      (try simp only [Act.put, List.setIfInBounds_toArray, List.set_cons_zero, List.set_cons_succ])
      refine ordM_take 7 ?vq8 rfl (by kernel_rfl) (by kernel_rfl) (by kernel_rfl) (by kernel_rfl) (fun _ _ _ h => h) (by rfl) ?hq8 (by assumption) ?rq8
      case hq8 => (intro W hSw; (try dsimp only at hSw); go_simp <;> with_reducible rfl)
      (try simp only [Act.put, List.setIfInBounds_toArray, List.set_cons_zero, List.set_cons_succ])
      refine ordM_take 8 ?vq9 rfl (by kernel_rfl) (by kernel_rfl) (by kernel_rfl) (by kernel_rfl) (fun _ _ _ h => h) (by rfl) ?hq9 (by assumption) ?rq9
      case hq9 => (intro W hSw; (try dsimp only at hSw); go_simp <;> with_reducible rfl)
      (try simp only [Act.put, List.setIfInBounds_toArray, List.set_cons_zero, List.set_cons_succ])
      refine ordM_done (by kernel_rfl) ?_ _
      refine NoPanic.normal ?_
      have hwp : IntKind.i64.wrap (1 + pt % 4) = 1 + pt % 4 := IntWalk.i64_in _ ⟨by omega, by omega⟩
      simp only [hm1, hm3, hwp]
      have ha : wy % 2 = 0 ∨ wy % 2 = 1 := by omega
      have hp1 : 1 ≤ 1 + pt % 4 := by omega
      have hp4 : 1 + pt % 4 ≤ 4 := by omega
      generalize wy % 2 = a at ha ⊢
      generalize 1 + pt % 4 = p at hp1 hp4 ⊢
      generalize w2.drew = w3 at hJd hYd d0 d1 d2 d3 d6 ⊢
      have hcs := neCutB d 40
      have HCUT := Lib.hid (cut_any d 40 w3 wds (by omega))
      generalize cutB d 40 = s at hcs HCUT
      have hwf : wf2 a p := by
        constructor <;> simp [Lit.wf, IntKind.min, IntKind.max, IntKind.signed, IntKind.bits] <;> omega
      clear hY hJ hS hwp
      go_wp2_with fail
      refine HCUT.out.mono ?_
      rintro e w4 ⟨rfl, hq⟩
      subst hq
      rename World => w3
      have hwa : IntKind.i64.wrap (48 + a) = 48 + a := IntWalk.i64_in _ ⟨by omega, by omega⟩
      have hwq : IntKind.i64.wrap (48 + p) = 48 + p := IntWalk.i64_in _ ⟨by omega, by omega⟩
      have hua : IntKind.u8.wrap (48 + a) = 48 + a := by rcases ha with rfl | rfl <;> decide
      have huq : IntKind.u8.wrap (48 + p) = 48 + p := by
        have hp : p = 1 ∨ p = 2 ∨ p = 3 ∨ p = 4 := by omega
        rcases hp with rfl | rfl | rfl | rfl <;> decide
      have hcv := neConv (w3.alloc (.cells #[.int .u8 (48 + a), .int .u8 (48 + p)] 5)) w3.heap.size (48 + a) (48 + p) (heap_alloc_new w3 _)
      have hal : Below w3.heap.size w3 (w3.alloc (.cells #[.int .u8 (48 + a), .int .u8 (48 + p)] 5)) := (Below.refl _ _).alloc (Nat.le_refl _) _
      have hJ := hJd.later hal
      have hY := hYd.later hal
      go_upto_region 15 with fail
      clear hwa hwq hua huq hcv HCUT hal hJd hYd d0 d1 d2 d3 d6
      generalize (w3.alloc (.cells #[.int .u8 (48 + a), .int .u8 (48 + p)] 5)) = w4 at hJ hY ⊢
      generalize w3.heap.size = gk
      rw [show strOfNums [48 + a, 48 + p] = neNm a p from rfl]
      have hnz := neNm_size a p
      obtain ⟨d0, d1, d2, d3, _, _, d6⟩ := hY.cells7
      go_upto_block 2 with fail
      go_cut [7] (fun y wx => ∃ (n' n2' : Nat) (x' : NE) (P' : ByteArray → Prop) (l' : Int), y = .int .i64 l' ∧ n' ≤ k + 1 ∧ n2' ≤ k + 1 ∧ 0 ≤ l' ∧ l' ≤ (k : Int) + 1 ∧ Hid (BagIn w wx g B gn gm n' n2' x' P' ((k : Int) + 1) l'))
      case first =>
        by_cases hk0 : kd = 0
        · subst hk0
          have HB := Lib.hid (neSend_any hJ.nin hwf s (by omega) (by omega) (fun i => by have := hJ.c i; omega))
          go_wp2_with fail
          refine HB.out.mono ?_
          rintro e w5 ⟨r, x5, rfl, hp, hI5, hK5⟩
          obtain ⟨hM, hDone⟩ := hJ.put hp hK5 hI5 (.inl rfl) ha hp1 hp4 hcs
          clear HB hK5
          cases r with
          | true =>
            have hmx : (neNm a p ++ s).size ≤ maxLen := by rw [ByteArray.size_append, hnz]; unfold maxLen; omega
            go_wp2_with (at_mapUpdate; refine wpList_putT _ rfl _ _ _ rfl gm n2 P rfl hM ?m0 (neNm a p ++ s) rfl ?m1 rfl ?_)
            case m0 => unfold maxLen; omega
            case m1 => exact hmx
            intro w6 hM6 hg6
            have hJ6 := hDone w6 _ _ hM6 hg6 (fun t h => .inl h) (fun _ => .inr rfl)
            clear hM hDone hM6 hg6 hp hI5 hJ
            go_wp2_with fail
            go_meet
            exact ⟨n + 1, n2 + 1, x5, _, lost, rfl, by omega, by omega, by omega, by omega, Lib.hid hJ6⟩
          | false =>
            have hJ6 := hDone w5 n2 P hM ⟨rfl, rfl, rfl, Nat.le_refl _, fun _ _ _ => rfl⟩ (fun t h => h) (fun e => by cases e)
            have hwl : IntKind.i64.wrap (lost + 1) = lost + 1 := IntWalk.i64_in _ ⟨by omega, by omega⟩
            clear hM hDone hp hI5 hJ
            go_wp2_with fail
            go_meet
            exact ⟨n + 1, n2, x5, P, lost + 1, rfl, by omega, by omega, by omega, by omega, Lib.hid hJ6⟩
        · have hd0 : decide (kd = 0) = false := decide_eq_false hk0
          by_cases hk1 : kd = 1
          · subst hk1
            have HB := Lib.hid (neTake_any hJ.nin hwf ix (by omega) (fun i => by have := hJ.c i; omega))
            go_wp2_with fail
            refine HB.out.mono ?_
            rintro e w5 ⟨r, x5, rfl, hp, hI5, hK5⟩
            have hJ5 := hJ.call hK5 hI5 (hp.bd hJ.c) (hp.bal (.inr rfl) hJ.bal ha hp1 hp4) (fun a' p' t ht => hJ.had a' p' t (hp.mem ht))
            cases r with
            | none =>
              clear HB hK5 hp hI5 hJ
              simp only [Option.getD, Option.isSome]
              go_wp2_with fail
              go_meet
              exact ⟨n + 1, n2, x5, P, lost, rfl, by omega, by omega, by omega, by omega, Lib.hid hJ5⟩
            | some t =>
              obtain ⟨hPt, hts⟩ := hJ.had a p t hp.took
              have hlk := hJ5.map.eq (s := neNm a p ++ t) (by rw [ByteArray.size_append, hnz]; unfold maxLen; omega) hPt
              clear HB hK5 hp hI5 hJ
              simp only [Option.getD, Option.isSome]
              go_wp2_with fail
              go_meet
              exact ⟨n + 1, n2, x5, P, lost, rfl, by omega, by omega, by omega, by omega, Lib.hid hJ5⟩
          · have hd1 : decide (kd = 1) = false := decide_eq_false hk1
            by_cases hk2 : kd = 2
            · subst hk2
              have HB := Lib.hid (neLose_any hJ.nin hwf ix (by omega) (fun i => by have := hJ.c i; omega))
              go_wp2_with fail
              refine HB.out.mono ?_
              rintro e w5 ⟨r, x5, rfl, hp, hI5, hK5⟩
              have hJ5 := hJ.call hK5 hI5 (hp.bd hJ.c) (hp.bal (.inl rfl) hJ.bal ha hp1 hp4) (fun a' p' t ht => hJ.had a' p' t (hp.mem ht))
              clear HB hK5 hp hI5 hJ
              go_wp2_with fail
              go_meet
              exact ⟨n + 1, n2, x5, P, lost, rfl, by omega, by omega, by omega, by omega, Lib.hid hJ5⟩
            · have hd2 : decide (kd = 2) = false := decide_eq_false hk2
              by_cases hk3 : kd = 3
              · subst hk3
                have HB := Lib.hid (neTwin_any hJ.nin hwf ix (by omega) (fun i => by have := hJ.c i; omega))
                go_wp2_with fail
                refine HB.out.mono ?_
                rintro e w5 ⟨r, x5, rfl, hp, hI5, hK5⟩
                have hJ5 := hJ.call hK5 hI5 (hp.bd hJ.c) (hp.bal hJ.bal ha hp1 hp4) (fun a' p' t ht => hJ.had a' p' t (hp.mem ht))
                clear HB hK5 hp hI5 hJ
                go_wp2_with fail
                go_meet
                exact ⟨n + 1, n2, x5, P, lost, rfl, by omega, by omega, by omega, by omega, Lib.hid hJ5⟩
              · have hd3 : decide (kd = 3) = false := decide_eq_false hk3
                have HB := Lib.hid (neForge_any hJ.nin hwf s (by omega) (by omega) (fun i => by have := hJ.c i; omega))
                go_wp2_with fail
                refine HB.out.mono ?_
                rintro e w5 ⟨r, x5, rfl, hp, hI5, hK5⟩
                obtain ⟨hM, hDone⟩ := hJ.put hp hK5 hI5 (.inr rfl) ha hp1 hp4 hcs
                clear HB hK5
                cases r with
                | true =>
                  have hmx : (neNm a p ++ s).size ≤ maxLen := by rw [ByteArray.size_append, hnz]; unfold maxLen; omega
                  go_wp2_with (at_mapUpdate; refine wpList_putT _ rfl _ _ _ rfl gm n2 P rfl hM ?m0 (neNm a p ++ s) rfl ?m1 rfl ?_)
                  case m0 => unfold maxLen; omega
                  case m1 => exact hmx
                  intro w6 hM6 hg6
                  have hJ6 := hDone w6 _ _ hM6 hg6 (fun t h => .inl h) (fun _ => .inr rfl)
                  clear hM hDone hM6 hg6 hp hI5 hJ
                  go_wp2_with fail
                  go_meet
                  exact ⟨n + 1, n2 + 1, x5, _, lost, rfl, by omega, by omega, by omega, by omega, Lib.hid hJ6⟩
                | false =>
                  have hJ6 := hDone w5 n2 P hM ⟨rfl, rfl, rfl, Nat.le_refl _, fun _ _ _ => rfl⟩ (fun t h => h) (fun e => by cases e)
                  have hwl : IntKind.i64.wrap (lost + 1) = lost + 1 := IntWalk.i64_in _ ⟨by omega, by omega⟩
                  clear hM hDone hp hI5 hJ
                  go_wp2_with fail
                  go_meet
                  exact ⟨n + 1, n2, x5, P, lost + 1, rfl, by omega, by omega, by omega, by omega, Lib.hid hJ6⟩
      case rest =>
        obtain ⟨n', n2', x', P', l', rfl, hn', hn2', hl0', hl2', HI⟩ := hcut
        rename World => w5
        clear hJ hY d0 d1 d2 d3 d6
        have hbal := HI.out.bal
        have hcb := HI.out.c
        have hTb := neT_le HI.out.nin.ln
        have HCT := Lib.hid (neCounts_any HI.out.nin)
        unfold NeBal at hbal
        go_wp2_with fail
        refine HCT.out.mono ?_
        rintro e w6 ⟨rfl, hk6⟩
        have hJ6 := HI.out.later hk6
        have hY6 := atQ_new 52 w6 w6.heap.size #[.int .i64 (x'.c 0), .int .i64 (x'.c 1), .int .i64 (x'.c 2), .int .i64 (x'.c 3), .int .i64 (x'.c 4), .int .i64 (x'.c 5)] rfl
        have hal6 : Below w6.heap.size w6 (w6.alloc (.cells #[.int .i64 (x'.c 0), .int .i64 (x'.c 1), .int .i64 (x'.c 2), .int .i64 (x'.c 3), .int .i64 (x'.c 4), .int .i64 (x'.c 5)] 52)) := (Below.refl _ _).alloc (Nat.le_refl _) _
        have hJ7 := hJ6.later hal6
        clear HI HCT hk6 hJ6 hal6
        go_upto_region 32 with fail
        generalize (w6.alloc (.cells #[.int .i64 (x'.c 0), .int .i64 (x'.c 1), .int .i64 (x'.c 2), .int .i64 (x'.c 3), .int .i64 (x'.c 4), .int .i64 (x'.c 5)] 52)) = w7 at hY6 hJ7 ⊢
        generalize w6.heap.size = gc at hY6 ⊢
        have HJ7 := Lib.hid hJ7
        have HY6 := Lib.hid hY6
        clear hJ7 hY6
        go_wp2_with fail
        go_loopw [17, 18] (fun s17 s18 wz => ∃ kk : Nat, kk ≤ 4 ∧ s18 = .int .i64 ((kk : Int) + 1) ∧ s17 = .int .i64 (neT x' kk) ∧ wz = w7) (fun _ s18 _ => 6 - (intOf s18).toNat)
        case atStart => exact ⟨0, by omega, rfl, rfl, rfl⟩
        case round =>
          obtain ⟨kk, hkk, rfl, rfl, hwz⟩ := hrel
          subst hwz
          rename World => w7
          by_cases hk4 : kk < 4
          · have hq : (Lit.int .i64 ((kk : Int) + 1)).wf = true := by simp [Lit.wf, IntKind.min, IntKind.max, IntKind.signed, IntKind.bits]; omega
            have hL0 := Lib.hid (neLen_q HJ7.out.nin (a := 0) (p := (kk : Int) + 1) ⟨by decide, hq⟩)
            have hL1 := Lib.hid (neLen_q HJ7.out.nin (a := 1) (p := (kk : Int) + 1) ⟨by decide, hq⟩)
            have ht := hTb kk
            have hs : neT x' (kk + 1) = neT x' kk + (((x'.G 0 ((kk : Int) + 1)).length : Int) + ((x'.G 1 ((kk : Int) + 1)).length : Int)) := rfl
            have b0 := HJ7.out.nin.ln 0 ((kk : Int) + 1)
            have b1 := HJ7.out.nin.ln 1 ((kk : Int) + 1)
            generalize (x'.G 0 ((kk : Int) + 1)).length = l0 at *
            generalize (x'.G 1 ((kk : Int) + 1)).length = l1 at *
            generalize neT x' kk = T at *
            have hw1 : IntKind.i64.wrap ((l0 : Int) + l1) = (l0 : Int) + l1 := IntWalk.i64_in _ ⟨by omega, by omega⟩
            have hw2 : IntKind.i64.wrap (T + ((l0 : Int) + l1)) = T + ((l0 : Int) + l1) := IntWalk.i64_in _ ⟨by omega, by omega⟩
            have hw3 : IntKind.i64.wrap ((kk : Int) + 1 + 1) = (kk : Int) + 1 + 1 := IntWalk.i64_in _ ⟨by omega, by omega⟩
            have HS := Lib.hid hs
            clear hs hbal hcb hTb ht hq b0 b1
            go_wp2_with fail
            refine hL0.out.mono ?_
            rintro e w' ⟨rfl, hq2⟩
            subst hq2
            rename World => w7
            go_wp2_with fail
            refine hL1.out.mono ?_
            rintro e w' ⟨rfl, hq2⟩
            subst hq2
            rename World => w7
            go_wp2_with fail
            go_roundw
            case rel => exact ⟨kk + 1, by omega, by first | (push_cast; rfl) | go_num, by rw [HS.out], by first | rfl | trivial⟩
            case measure => simp [intOf]; omega
          · obtain rfl : kk = 4 := by omega
            obtain ⟨e0, e1, e2, e3, e4, e5⟩ := HY6.out.cells6
            have ht := hTb 4
            have h0 := hcb 0
            have h1 := hcb 1
            have h2 := hcb 2
            have h3 := hcb 3
            have h5 := hcb 5
            generalize x'.c 0 = c0 at *
            generalize x'.c 1 = c1 at *
            generalize x'.c 2 = c2 at *
            generalize x'.c 3 = c3 at *
            generalize x'.c 4 = c4 at *
            generalize x'.c 5 = c5 at *
            generalize neT x' 4 = T at *
            obtain ⟨Z, hZ⟩ : ∃ Z, c0 + c3 + c5 = Z := ⟨_, rfl⟩
            have hw1 : IntKind.i64.wrap (c0 + c3) = c0 + c3 := IntWalk.i64_in _ ⟨by omega, by omega⟩
            have hw2 : IntKind.i64.wrap (c0 + c3 + c5) = Z := by rw [hZ]; exact IntWalk.i64_in _ ⟨by omega, by omega⟩
            have hw3 : IntKind.i64.wrap (c2 + c1) = c2 + c1 := IntWalk.i64_in _ ⟨by omega, by omega⟩
            have hw4 : IntKind.i64.wrap (c2 + c1 - l') = c2 + c1 - l' := IntWalk.i64_in _ ⟨by omega, by omega⟩
            have hw5 : IntKind.i64.wrap (c2 + c1 - l' + T) = Z := by rw [← hbal, hZ]; exact IntWalk.i64_in _ ⟨by omega, by omega⟩
            have hwk : IntKind.i64.wrap ((k : Int) + 1) = (k : Int) + 1 := IntWalk.i64_in _ ⟨by omega, by omega⟩
            clear hZ hbal h0 h1 h2 h3 h5 hcb hTb
            go_wp2_with fail
            go_roundw
            case rel => exact ⟨k + 1, n', n2', x', P', l', by omega, by omega, by omega, by omega, by go_num, rfl, hl0', by push_cast; exact hl2', Lib.hid (by push_cast; exact HJ7.out)⟩
            case measure => simp [intOf]; omega
    · have hbel := HI.out.bel
      by_cases hk1 : k < len1
      · have hd1 : decide ((k : Int) < (len1 : Int)) = true := decide_eq_true (by omega)
        have hd2 : decide ((k : Int) < 50) = false := decide_eq_false (by omega)
        go_wp2_with fail
        go_ret
        exact ⟨rfl, by rw [HG.out]; exact hbel⟩
      · have hd1 : decide ((k : Int) < (len1 : Int)) = false := decide_eq_false (by omega)
        go_wp2_with fail
        go_ret
        exact ⟨rfl, by rw [HG.out]; exact hbel⟩
end netBag
end Go.Proofs.Ytmicpmcmjnbcjaa
