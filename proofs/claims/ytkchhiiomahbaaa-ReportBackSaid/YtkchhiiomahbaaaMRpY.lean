/- The document's May of a report. -/
import Derived.Test.YtkchhiiomahbaaaMRpE
namespace Go.Proofs.Ytkchhiiomahbaaa
open Go.RowKit
set_option linter.unusedVariables false
theorem rpMay_iff (src : Int) (isS : Bool) (clock time packets bytes : Int) (l : List BK) : rpMay ⟨src, isS, clock, time, packets, bytes, l⟩ ↔ (0 ≤ clock ∧ clock ≤ 1099511627776) ∧ l.length ≤ 31 ∧ (isS = false → clock = 0 ∧ time = 0 ∧ packets = 0 ∧ bytes = 0) ∧ ∀ b ∈ l, bkMay b := by
  unfold rpMay sentMay
  simp only
  cases isS
  · constructor
    · rintro ⟨⟨_, h1⟩, h2, h3⟩
      have := h1 rfl
      exact ⟨by omega, h2, h1, h3⟩
    · rintro ⟨_, h2, h1, h3⟩
      exact ⟨⟨fun h => (by cases h), h1⟩, h2, h3⟩
  · constructor
    · rintro ⟨⟨h1, _⟩, h2, h3⟩
      exact ⟨h1 rfl, h2, fun h => (by cases h), h3⟩
    · rintro ⟨h1, h2, _, h3⟩
      exact ⟨⟨fun _ => h1, fun h => (by cases h)⟩, h2, h3⟩
set_option maxRecDepth 100000 in
set_option maxHeartbeats 3200000 in
theorem rpRefMay_any (r : RP) (a : Option Addr) (c : Nat) (w : World) (hr : ReadsB BK.rvals w a r.blocks) (hl : r.blocks.length ≤ 1000000) (b : Bool) (hv : b = true ↔ rpMay r) :
    Calls Try.prog 24 #[.agg #[.int .i64 r.src, .bool r.isS, .int .i64 r.clock, .int .i64 r.time, .int .i64 r.packets, .int .i64 r.bytes, .slice a r.blocks.length c]] w fun e w' => e = .returned (.bool b) ∧ Below w.heap.size w w' := by
  obtain ⟨src, isS, clock, time, packets, bytes, l⟩ := r
  have hv2 := hv.trans (rpMay_iff src isS clock time packets bytes l)
  simp only at hr hl ⊢
  have HV := Lib.hid hv2
  clear hv hv2
  have hX1 := at7_new 38 w (.int .i64 src) (.bool isS) (.int .i64 clock) (.int .i64 time) (.int .i64 packets) (.int .i64 bytes) (.slice a l.length c)
  have hb1 : Below w.heap.size w (w.alloc (.cells #[.int .i64 src, .bool isS, .int .i64 clock, .int .i64 time, .int .i64 packets, .int .i64 bytes, .slice a l.length c] 38)) := (Below.refl _ _).alloc (Nat.le_refl _) _
  have HR := Lib.hid (fun W (h : Below w.heap.size w W) => hr.later h)
  clear hr
  go_enter Try.func24, Try.ntmps24
  go_upto_region 1 with fail
  generalize w.alloc (.cells #[.int .i64 src, .bool isS, .int .i64 clock, .int .i64 time, .int .i64 packets, .int .i64 bytes, .slice a l.length c] 38) = w2 at hX1 hb1 ⊢
  have hgl := hX1.lt
  obtain ⟨x0, x1, x2, x3, x4, x5, x6⟩ := hX1.cells
  go_cut [43] (fun z43 wx => wx = w2 ∧ z43 = .bool (!decide ((0 ≤ clock ∧ clock ≤ 1099511627776) ∧ l.length ≤ 31 ∧ (isS = false → clock = 0 ∧ time = 0 ∧ packets = 0 ∧ bytes = 0))))
  case first =>
    by_cases k1 : clock < 0
    · have DD := Lib.hid (show ¬ ((0 ≤ clock ∧ clock ≤ 1099511627776) ∧ l.length ≤ 31 ∧ (isS = false → clock = 0 ∧ time = 0 ∧ packets = 0 ∧ bytes = 0)) from fun h => by have := h.1; have := h.2.1; omega)
      clear HV HR hX1 hb1
      go_wp2_with fail
      go_meet
      exact ⟨rfl, by rw [decide_eq_false DD.out]; rfl⟩
    · skip
      by_cases k2 : 1099511627776 < clock
      · have DD := Lib.hid (show ¬ ((0 ≤ clock ∧ clock ≤ 1099511627776) ∧ l.length ≤ 31 ∧ (isS = false → clock = 0 ∧ time = 0 ∧ packets = 0 ∧ bytes = 0)) from fun h => by have := h.1; have := h.2.1; omega)
        clear HV HR hX1 hb1
        go_wp2_with fail
        go_meet
        exact ⟨rfl, by rw [decide_eq_false DD.out]; rfl⟩
      · skip
        by_cases k3 : 31 < l.length
        · have DD := Lib.hid (show ¬ ((0 ≤ clock ∧ clock ≤ 1099511627776) ∧ l.length ≤ 31 ∧ (isS = false → clock = 0 ∧ time = 0 ∧ packets = 0 ∧ bytes = 0)) from fun h => by have := h.1; have := h.2.1; omega)
          clear HV HR hX1 hb1
          go_wp2_with fail
          go_meet
          exact ⟨rfl, by rw [decide_eq_false DD.out]; rfl⟩
        · skip
          cases isS
          · skip
            by_cases m1 : clock = 0
            · skip
              by_cases m2 : time = 0
              · skip
                by_cases m3 : packets = 0
                · skip
                  by_cases m4 : bytes = 0
                  · skip
                    have DD := Lib.hid (show ((0 ≤ clock ∧ clock ≤ 1099511627776) ∧ l.length ≤ 31 ∧ (false = false → clock = 0 ∧ time = 0 ∧ packets = 0 ∧ bytes = 0)) from ⟨by omega, by omega, fun _ => ⟨m1, m2, m3, m4⟩⟩)
                    have em1 : (clock != 0) = false := by simpa using m1
                    have em2 : (time != 0) = false := by simpa using m2
                    have em3 : (packets != 0) = false := by simpa using m3
                    have em4 : (bytes != 0) = false := by simpa using m4
                    clear m1 m2 m3 m4 k1 k2
                    have k1 : 0 ≤ clock := DD.out.1.1
                    have k2 : clock ≤ 1099511627776 := DD.out.1.2
                    clear HV HR hX1 hb1
                    go_wp2_with fail
                    go_meet
                    exact ⟨rfl, by rw [decide_eq_true DD.out]; first | rfl | (simp; omega)⟩
                  · have DD := Lib.hid (show ¬ ((0 ≤ clock ∧ clock ≤ 1099511627776) ∧ l.length ≤ 31 ∧ (false = false → clock = 0 ∧ time = 0 ∧ packets = 0 ∧ bytes = 0)) from fun h => m4 (h.2.2 rfl).2.2.2)
                    have em1 : (clock != 0) = false := by simpa using m1
                    have em2 : (time != 0) = false := by simpa using m2
                    have em3 : (packets != 0) = false := by simpa using m3
                    have em4 : (bytes != 0) = true := by simpa using m4
                    clear m1 m2 m3 m4
                    clear HV HR hX1 hb1
                    go_wp2_with fail
                    go_meet
                    exact ⟨rfl, by rw [decide_eq_false DD.out]; rfl⟩
                · have DD := Lib.hid (show ¬ ((0 ≤ clock ∧ clock ≤ 1099511627776) ∧ l.length ≤ 31 ∧ (false = false → clock = 0 ∧ time = 0 ∧ packets = 0 ∧ bytes = 0)) from fun h => m3 (h.2.2 rfl).2.2.1)
                  have em1 : (clock != 0) = false := by simpa using m1
                  have em2 : (time != 0) = false := by simpa using m2
                  have em3 : (packets != 0) = true := by simpa using m3
                  clear m1 m2 m3
                  clear HV HR hX1 hb1
                  go_wp2_with fail
                  go_meet
                  exact ⟨rfl, by rw [decide_eq_false DD.out]; rfl⟩
              · have DD := Lib.hid (show ¬ ((0 ≤ clock ∧ clock ≤ 1099511627776) ∧ l.length ≤ 31 ∧ (false = false → clock = 0 ∧ time = 0 ∧ packets = 0 ∧ bytes = 0)) from fun h => m2 (h.2.2 rfl).2.1)
                have em1 : (clock != 0) = false := by simpa using m1
                have em2 : (time != 0) = true := by simpa using m2
                clear m1 m2
                clear HV HR hX1 hb1
                go_wp2_with fail
                go_meet
                exact ⟨rfl, by rw [decide_eq_false DD.out]; rfl⟩
            · have DD := Lib.hid (show ¬ ((0 ≤ clock ∧ clock ≤ 1099511627776) ∧ l.length ≤ 31 ∧ (false = false → clock = 0 ∧ time = 0 ∧ packets = 0 ∧ bytes = 0)) from fun h => m1 (h.2.2 rfl).1)
              have em1 : (clock != 0) = true := by simpa using m1
              clear m1
              clear HV HR hX1 hb1
              go_wp2_with fail
              go_meet
              exact ⟨rfl, by rw [decide_eq_false DD.out]; rfl⟩
          · have DD := Lib.hid (show ((0 ≤ clock ∧ clock ≤ 1099511627776) ∧ l.length ≤ 31 ∧ (true = false → clock = 0 ∧ time = 0 ∧ packets = 0 ∧ bytes = 0)) from ⟨by omega, by omega, fun h => (by cases h)⟩)
            clear HV HR hX1 hb1
            go_wp2_with fail
            go_meet
            exact ⟨rfl, by rw [decide_eq_true DD.out]; first | rfl | (simp; omega)⟩
  case rest =>
  obtain ⟨rfl, rfl⟩ := hcut
  rename World => w3
  by_cases hD : ((0 ≤ clock ∧ clock ≤ 1099511627776) ∧ l.length ≤ 31 ∧ (isS = false → clock = 0 ∧ time = 0 ∧ packets = 0 ∧ bytes = 0))
  · rw [decide_eq_true hD, Bool.not_true]
    have HM := Lib.hid (fun h => HV.out.2 ⟨hD.1, hD.2.1, hD.2.2, h⟩)
    have HN := Lib.hid (fun (q : BK) (hq : q ∈ l) (h : ¬ bkMay q) => (show b = false from by
      cases b with
      | false => rfl
      | true => exact absurd ((HV.out.1 rfl).2.2.2 q hq) h))
    clear hD HV
    generalize hgg : w.heap.size = g at hX1 hb1 HR hgl x0 x1 x2 x3 x4 x5 x6 ⊢
    have HG := Lib.hid hgg
    clear hgg
    go_wp2_with fail
    go_loopw [47] (fun i wr => ∃ k : Nat, k ≤ l.length ∧ i = .int .i64 k ∧ Below g w wr ∧ g ≤ wr.heap.size ∧ Hid (∀ b ∈ l.take k, bkMay b)) (fun i _ => l.length - (intOf i).toNat)
    case atStart => exact ⟨0, Nat.zero_le _, rfl, hb1, by omega, Lib.hid (fun b hb => by simp at hb)⟩
    case round =>
      obtain ⟨k, hk, rfl, hb3, hg3, HK⟩ := hrel
      clear hb1 hgl hX1 x0 x1 x2 x3 x4 x5 x6
      by_cases hlt : k < l.length
      · obtain ⟨ab, off, rfl, x0, x1, x2, x3, x4, x5, x6⟩ := (HR.out _ hb3).rat hlt
        have HT := Lib.hid (bk_take l k hlt HK.out)
        have hmem := HN.out _ (bk_mem l k hlt)
        generalize l[k]?.getD zeroBK = p at x0 x1 x2 x3 x4 x5 x6 HT hmem
        have hba := hb3.alloc hg3 (.cells #[.int .i64 p.src, .int .i64 p.frac, .int .i64 p.lost, .int .i64 p.high, .int .i64 p.jit, .int .i64 p.last, .int .i64 p.delay] 126)
        have hga : g ≤ (wr.alloc (.cells #[.int .i64 p.src, .int .i64 p.frac, .int .i64 p.lost, .int .i64 p.high, .int .i64 p.jit, .int .i64 p.last, .int .i64 p.delay] 126)).heap.size := by simp; omega
        have hPa := at7_new 126 wr (.int .i64 p.src) (.int .i64 p.frac) (.int .i64 p.lost) (.int .i64 p.high) (.int .i64 p.jit) (.int .i64 p.last) (.int .i64 p.delay)
        by_cases hp : bkMay p
        · have HT2 := Lib.hid (HT.out hp)
          obtain ⟨p1, p2, p3, p4⟩ := hp
          clear hmem HT
          obtain ⟨bs, bf, bl, bh, bj, bt, bd⟩ := p
          simp only at *
          go_upto_region 6 with fail
          generalize wr.alloc (.cells #[.int .i64 bs, .int .i64 bf, .int .i64 bl, .int .i64 bh, .int .i64 bj, .int .i64 bt, .int .i64 bd] 126) = w5 at hba hga hPa ⊢
          generalize wr.heap.size = gp at hPa ⊢
          clear x0 x1 x2 x3 x4 x5 x6 hb3 hg3
          obtain ⟨x0, x1, x2, x3, x4, x5, x6⟩ := hPa.cells
          have q4 : decide (8388607 < bl) = false := by simp; omega
          go_wp2
          go_roundw
          case rel => exact ⟨k + 1, by omega, by go_num, hba, hga, HT2⟩
          case measure => simp [intOf]; omega
        · obtain rfl := hmem hp
          clear hmem HT HM HN
          have hb4 : ¬ (0 ≤ p.frac ∧ p.frac ≤ 255 ∧ -8388608 ≤ p.lost ∧ p.lost ≤ 8388607) := hp
          clear hp
          obtain ⟨bs, bf, bl, bh, bj, bt, bd⟩ := p
          simp only at *
          go_upto_region 6 with fail
          generalize wr.alloc (.cells #[.int .i64 bs, .int .i64 bf, .int .i64 bl, .int .i64 bh, .int .i64 bj, .int .i64 bt, .int .i64 bd] 126) = w5 at hba hga hPa ⊢
          generalize wr.heap.size = gp at hPa ⊢
          clear x0 x1 x2 x3 x4 x5 x6 hb3 hg3
          obtain ⟨x0, x1, x2, x3, x4, x5, x6⟩ := hPa.cells
          by_cases q1 : bf < 0
          · clear hb4
            go_wp2_with fail
            go_ret
            exact ⟨rfl, by rw [HG.out]; exact hba⟩
          · by_cases q2 : 255 < bf
            · clear hb4
              go_wp2_with fail
              go_ret
              exact ⟨rfl, by rw [HG.out]; exact hba⟩
            · by_cases q3 : bl < -8388608
              · clear hb4
                go_wp2_with fail
                go_ret
                exact ⟨rfl, by rw [HG.out]; exact hba⟩
              · have q4 : 8388607 < bl := by omega
                clear hb4
                go_wp2_with fail
                go_ret
                exact ⟨rfl, by rw [HG.out]; exact hba⟩
      · obtain rfl : k = l.length := by omega
        obtain rfl := HM.out (fun b hb => HK.out b (by rw [List.take_length]; exact hb))
        go_wp2_with fail
        go_ret
        exact ⟨rfl, by rw [HG.out]; exact hb3⟩
  · obtain rfl : b = false := by
      cases b with
      | false => rfl
      | true => exact absurd ⟨(HV.out.1 rfl).1, (HV.out.1 rfl).2.1, (HV.out.1 rfl).2.2.1⟩ hD
    rw [decide_eq_false hD, Bool.not_false]
    clear hD HV
    go_wp2_with fail
    go_ret
    exact ⟨rfl, hb1⟩
end Go.Proofs.Ytkchhiiomahbaaa

