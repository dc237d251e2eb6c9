/- rtp: the statements' Same. -/
import Derived.Test.YtilobmebfeenfaaRtpK
import Derived.Deep.QuietTactic
import Derived.BigQuiet
namespace Go.Proofs.Ytilobmebfeenfaa
open Go.RowKit
set_option linter.unusedVariables false
theorem rrk_at (W : World) (n : Nat) (c0 c1 c2 c3 c4 c5 c6 c7 c8 c9 c10 : Value) (hn : n = W.heap.size) : RkIn (W.alloc (.cells #[c0, c1, c2, c3, c4, c5, c6, c7, c8, c9, c10] 36)) n c0 c1 c2 c3 c4 c5 c6 c7 c8 c9 c10 := rk_new W n _ _ _ _ _ _ _ _ _ _ _ hn
set_option maxRecDepth 100000 in
set_option maxHeartbeats 3200000 in
theorem same_any (p q : PK) (a a2 : Option Addr) (c c2 : Nat) (w : World) (hl : p.others.length ≤ 1000000) (hl2 : q.others.length ≤ 1000000) (hr : Reads .i64 w a p.others) (hr2 : Reads .i64 w a2 q.others) (b : Bool) (hb : b = true ↔ p = q) :
    Calls Try.prog 10 #[.agg (p.rcells a c), .agg (q.rcells a2 c2)] w fun e w' => e = .returned (.bool b) ∧ Below w.heap.size w w' := by
  have Hb := Lib.hid hb
  clear hb
  obtain ⟨mrk, kind, seq, time, source, others, hx, prof, ext, data, pad⟩ := p
  obtain ⟨mrk2, kind2, seq2, time2, source2, others2, hx2, prof2, ext2, data2, pad2⟩ := q
  have hX0 := RkIn.later (rrk_at w w.heap.size (.bool mrk) (.int .i64 kind) (.int .i64 seq) (.int .i64 time) (.int .i64 source) (.slice a others.length c) (.bool hx) (.int .i64 prof) (.string ext) (.string data) (.int .i64 pad) rfl) ((Below.refl _ _).alloc (Nat.le_refl _) (.cells #[.bool mrk2, .int .i64 kind2, .int .i64 seq2, .int .i64 time2, .int .i64 source2, .slice a2 others2.length c2, .bool hx2, .int .i64 prof2, .string ext2, .string data2, .int .i64 pad2] 36))
  have hY0 := rrk_at (w.alloc (.cells #[.bool mrk, .int .i64 kind, .int .i64 seq, .int .i64 time, .int .i64 source, .slice a others.length c, .bool hx, .int .i64 prof, .string ext, .string data, .int .i64 pad] 36)) (w.heap.size + 1) (.bool mrk2) (.int .i64 kind2) (.int .i64 seq2) (.int .i64 time2) (.int .i64 source2) (.slice a2 others2.length c2) (.bool hx2) (.int .i64 prof2) (.string ext2) (.string data2) (.int .i64 pad2) (by simp)
  have hb0 : Below w.heap.size w ((w.alloc (.cells #[.bool mrk, .int .i64 kind, .int .i64 seq, .int .i64 time, .int .i64 source, .slice a others.length c, .bool hx, .int .i64 prof, .string ext, .string data, .int .i64 pad] 36)).alloc (.cells #[.bool mrk2, .int .i64 kind2, .int .i64 seq2, .int .i64 time2, .int .i64 source2, .slice a2 others2.length c2, .bool hx2, .int .i64 prof2, .string ext2, .string data2, .int .i64 pad2] 36)) := by go_grown
  simp only [PK.rcells] at *
  have hX0' := Lib.hid hX0
  have hY0' := Lib.hid hY0
  clear hX0 hY0
  by_cases k1 : others.length = others2.length
  · by_cases k2 : mrk = mrk2
    · subst k2
      by_cases k3 : kind = kind2
      · subst k3
        by_cases k4 : seq = seq2
        · subst k4
          by_cases k5 : time = time2
          · subst k5
            by_cases k6 : source = source2
            · subst k6
              obtain ⟨n, hn⟩ : ∃ n, others.length = n := ⟨_, rfl⟩
              have hn2 : others2.length = n := k1 ▸ hn
              have Hn := Lib.hid hn
              have Hn2 := Lib.hid hn2
              rw [hn] at hl hX0' hY0' hb0 ⊢
              rw [hn2] at hl2 hX0' hY0' hb0 ⊢
              clear k1 hn hn2
              go_enter Try.func10, Try.ntmps10
              go_wp2_with fail
              have hX0 := hX0'.out
              have hY0 := hY0'.out
              clear hX0' hY0'
              generalize (w.alloc (.cells #[.bool mrk, .int .i64 kind, .int .i64 seq, .int .i64 time, .int .i64 source, .slice a n c, .bool hx, .int .i64 prof, .string ext, .string data, .int .i64 pad] 36)).alloc (.cells #[.bool mrk, .int .i64 kind, .int .i64 seq, .int .i64 time, .int .i64 source, .slice a2 n c2, .bool hx2, .int .i64 prof2, .string ext2, .string data2, .int .i64 pad2] 36) = w2 at hX0 hY0 hb0 ⊢
              have hne : w.heap.size ≠ w.heap.size + 1 := by omega
              generalize hg2 : w.heap.size + 1 = g2 at hY0 hne ⊢
              generalize hg1 : w.heap.size = g1 at hX0 hne ⊢
              clear hg2 hg1
              go_loopw [51] (fun i wr => ∃ k : Nat, k ≤ n ∧ i = .int .i64 k ∧ RkIn wr g1 (.bool mrk) (.int .i64 kind) (.int .i64 seq) (.int .i64 time) (.int .i64 source) (.slice a n c) (.bool hx) (.int .i64 prof) (.string ext) (.string data) (.int .i64 pad) ∧ RkIn wr g2 (.bool mrk) (.int .i64 kind) (.int .i64 seq) (.int .i64 time) (.int .i64 source) (.slice a2 n c2) (.bool hx2) (.int .i64 prof2) (.string ext2) (.string data2) (.int .i64 pad2) ∧ Below w.heap.size w wr ∧ Hid (others.take k = others2.take k)) (fun i _ => n - (intOf i).toNat)
              case atStart => exact ⟨0, Nat.zero_le _, rfl, hX0, hY0, hb0, Lib.hid rfl⟩
              case round =>
                obtain ⟨k, hk, rfl, hX, hY, hb1, Hk⟩ := hrel
                clear hX0 hY0 hb0
                obtain ⟨c0, c1, c2', c3, c4, c5, c6, c7, c8, c9, c10⟩ := hX.cells
                obtain ⟨d0, d1, d2, d3, d4, d5, d6, d7, d8, d9, d10⟩ := hY.cells
                by_cases hlt : k < n
                · obtain ⟨ab, off, rfl, hcell⟩ := (hr.later hb1).at (show k < others.length by have := Hn.out; omega)
                  obtain ⟨ab2, off2, rfl, hcell2⟩ := (hr2.later hb1).at (show k < others2.length by have := Hn2.out; omega)
                  have hts : Hid (others.take (k + 1) = others.take k ++ [others[k]?.getD 0]) := by
                    have h : k < others.length := by have := Hn.out; omega
                    show _ = _
                    rw [List.take_succ_eq_append_getElem h, List.getElem?_eq_getElem h]; rfl
                  have hts2 : Hid (others2.take (k + 1) = others2.take k ++ [others2[k]?.getD 0]) := by
                    have h : k < others2.length := by have := Hn2.out; omega
                    show _ = _
                    rw [List.take_succ_eq_append_getElem h, List.getElem?_eq_getElem h]; rfl
                  have Hx : Hid (others = others2 → others[k]?.getD 0 = others2[k]?.getD 0) := Lib.hid fun e => by rw [e]
                  have hki : (k : Int) < (n : Int) := by omega
                  have hk0 : (0 : Int) ≤ (k : Int) := by omega
                  generalize others[k]?.getD 0 = x at hcell hts Hx
                  generalize others2[k]?.getD 0 = y at hcell2 hts2 Hx
                  clear hr hr2
                  by_cases hxy : x = y
                  · subst hxy
                    clear Hx
                    go_wp2
                    go_quiet (fail)
                    go_wp2
                    go_roundw
                    case rel => exact ⟨k + 1, by omega, by go_num, hX, hY, below_drewN hb1 _, Lib.hid (by rw [hts.out, hts2.out, Hk.out])⟩
                    case measure => simp [intOf]; omega
                  · obtain rfl : b = false := by cases b with | false => rfl | true => exact absurd (Hx.out (congrArg PK.others (Hb.out.1 rfl))) hxy
                    clear Hx Hb hts hts2
                    have hq : ((x : Int) == y) = false := by simpa using hxy
                    go_wp2
                    go_quiet (fail)
                    go_wp2
                    go_ret
                    exact ⟨rfl, by first | exact hb1 | exact below_drewN hb1 _ | go_grown⟩
                · obtain rfl : k = n := by omega
                  have Ho : Hid (others = others2) := by
                    show _ = _
                    have h1 := Hk.out
                    rwa [List.take_of_length_le (Nat.le_of_eq Hn.out), List.take_of_length_le (Nat.le_of_eq Hn2.out)] at h1
                  clear Hk hlt hr hr2 hl hl2
                  by_cases m1 : hx = hx2
                  · subst m1
                    by_cases m2 : prof = prof2
                    · subst m2
                      by_cases m3 : ext = ext2
                      · subst m3
                        by_cases m4 : data = data2
                        · subst m4
                          by_cases m5 : pad = pad2
                          · subst m5
                            obtain rfl : b = true := Hb.out.2 (by rw [Ho.out])
                            clear Hb Ho
                            go_wp2
                            go_ret
                            exact ⟨rfl, by first | exact hb1 | exact below_drewN hb1 _ | go_grown⟩
                          · obtain rfl : b = false := by cases b with | false => rfl | true => exact absurd (congrArg PK.pad (Hb.out.1 rfl)) m5
                            have hq : (pad == pad2) = false := by simpa using m5
                            clear Hb Ho
                            go_wp2
                            go_ret
                            exact ⟨rfl, by first | exact hb1 | exact below_drewN hb1 _ | go_grown⟩
                        · obtain rfl : b = false := by cases b with | false => rfl | true => exact absurd (congrArg PK.data (Hb.out.1 rfl)) m4
                          have hq := texts_ne m4
                          clear Hb Ho
                          go_wp2
                          go_ret
                          exact ⟨rfl, by first | exact hb1 | exact below_drewN hb1 _ | go_grown⟩
                      · obtain rfl : b = false := by cases b with | false => rfl | true => exact absurd (congrArg PK.ext (Hb.out.1 rfl)) m3
                        have hq := texts_ne m3
                        clear Hb Ho
                        go_wp2
                        go_ret
                        exact ⟨rfl, by first | exact hb1 | exact below_drewN hb1 _ | go_grown⟩
                    · obtain rfl : b = false := by cases b with | false => rfl | true => exact absurd (congrArg PK.prof (Hb.out.1 rfl)) m2
                      have hq : (prof == prof2) = false := by simpa using m2
                      clear Hb Ho
                      go_wp2
                      go_ret
                      exact ⟨rfl, by first | exact hb1 | exact below_drewN hb1 _ | go_grown⟩
                  · obtain rfl : b = false := by cases b with | false => rfl | true => exact absurd (congrArg PK.hx (Hb.out.1 rfl)) m1
                    have hq : (hx == hx2) = false := by simpa using m1
                    clear Hb Ho
                    go_wp2
                    go_ret
                    exact ⟨rfl, by first | exact hb1 | exact below_drewN hb1 _ | go_grown⟩
            · obtain rfl : b = false := by cases b with | false => rfl | true => exact absurd (congrArg PK.source (Hb.out.1 rfl)) k6
              have hq : (source == source2) = false := by simpa using k6
              clear Hb
              go_enter Try.func10, Try.ntmps10
              go_wp2
              go_ret
              exact ⟨rfl, by go_grown⟩
          · obtain rfl : b = false := by cases b with | false => rfl | true => exact absurd (congrArg PK.time (Hb.out.1 rfl)) k5
            have hq : (time == time2) = false := by simpa using k5
            clear Hb
            go_enter Try.func10, Try.ntmps10
            go_wp2
            go_ret
            exact ⟨rfl, by go_grown⟩
        · obtain rfl : b = false := by cases b with | false => rfl | true => exact absurd (congrArg PK.seq (Hb.out.1 rfl)) k4
          have hq : (seq == seq2) = false := by simpa using k4
          clear Hb
          go_enter Try.func10, Try.ntmps10
          go_wp2
          go_ret
          exact ⟨rfl, by go_grown⟩
      · obtain rfl : b = false := by cases b with | false => rfl | true => exact absurd (congrArg PK.kind (Hb.out.1 rfl)) k3
        have hq : (kind == kind2) = false := by simpa using k3
        clear Hb
        go_enter Try.func10, Try.ntmps10
        go_wp2
        go_ret
        exact ⟨rfl, by go_grown⟩
    · obtain rfl : b = false := by cases b with | false => rfl | true => exact absurd (congrArg PK.mrk (Hb.out.1 rfl)) k2
      have hq : (mrk == mrk2) = false := by simpa using k2
      clear Hb
      go_enter Try.func10, Try.ntmps10
      go_wp2
      go_ret
      exact ⟨rfl, by go_grown⟩
  · obtain rfl : b = false := by cases b with | false => rfl | true => exact absurd (congrArg PK.others (Hb.out.1 rfl)) (fun e => k1 (congrArg List.length e))
    have hq : ((others.length : Int) == (others2.length : Int)) = false := by rw [beq_eq_false_iff_ne]; omega
    clear Hb
    go_enter Try.func10, Try.ntmps10
    go_wp2
    go_ret
    exact ⟨rfl, by go_grown⟩

end Go.Proofs.Ytilobmebfeenfaa
