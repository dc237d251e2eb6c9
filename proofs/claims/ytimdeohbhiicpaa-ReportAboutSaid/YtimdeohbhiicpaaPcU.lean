/- The document's Split; the statements' Is. -/
import Derived.Test.YtimdeohbhiicpaaPcT
import Derived.Deep.QuietTactic
import Derived.BigQuiet
namespace Go.Proofs.Ytimdeohbhiicpaa
open Go.RowKit
set_option linter.unusedVariables false
theorem spl_err (s s1 : ByteArray) (l : List PC) (h : split s = ((split s1).1, l ++ (split s1).2)) (h0 : s1.size ≠ 0) (k : Int) (hk : pcE s1 = k) (hk0 : k ≠ 0) : (split s).1 = k ∧ finL s = [] := by
  have e : (split s).1 = k := by rw [h, split_bad s1 h0 (by rw [hk]; exact hk0), hk]
  refine ⟨e, ?_⟩
  unfold finL
  rw [e, if_neg hk0]
theorem spl_step (s s1 : ByteArray) (l : List PC) (h : split s = ((split s1).1, l ++ (split s1).2)) (h0 : s1.size ≠ 0) (hk : pcE s1 = 0) : split s = ((split (pcR s1)).1, (l ++ [pcF s1]) ++ (split (pcR s1)).2) := by
  rw [h, split_good1 s1 h0 hk, split_good2 s1 h0 hk, List.append_assoc, List.singleton_append]
theorem spl_end (s s1 : ByteArray) (l : List PC) (h : split s = ((split s1).1, l ++ (split s1).2)) (h0 : s1.size = 0) : (split s).1 = 0 ∧ finL s = l := by
  have e : split s = (0, l) := by rw [h, split_nil s1 h0, List.append_nil]
  refine ⟨by rw [e], ?_⟩
  unfold finL; rw [e, if_pos rfl]
theorem pcE_2 (s : ByteArray) (h : s.size < 4) : pcE s = 2 := by unfold pcE; rw [if_pos h]
theorem pcE_1 (s : ByteArray) (h : ¬ s.size < 4) (h1 : fB s 0 / 32 ≠ 4) : pcE s = 1 := by unfold pcE; rw [if_neg h, if_pos h1]
theorem pcE_5 (s : ByteArray) (h : ¬ s.size < 4) (h1 : fB s 0 / 32 = 4) (h2 : fB s 1 < 192 ∨ 223 < fB s 1) : pcE s = 5 := by unfold pcE; rw [if_neg h, if_neg (fun x => x h1), if_pos h2]
theorem pcE_2b (s : ByteArray) (h : ¬ s.size < 4) (h1 : fB s 0 / 32 = 4) (h2 : ¬ (fB s 1 < 192 ∨ 223 < fB s 1)) (h3 : s.size < 4 + 4 * gN s 2 4) : pcE s = 2 := by unfold pcE; rw [if_neg h, if_neg (fun x => x h1), if_neg h2, if_pos h3]
theorem pcE_0 (s : ByteArray) (h : ¬ s.size < 4) (h1 : fB s 0 / 32 = 4) (h2 : ¬ (fB s 1 < 192 ∨ 223 < fB s 1)) (h3 : ¬ s.size < 4 + 4 * gN s 2 4) : pcE s = 0 := by unfold pcE; rw [if_neg h, if_neg (fun x => x h1), if_neg h2, if_neg h3]
theorem get24 (s : ByteArray) (w : World) : Calls Try.prog 54 #[.string (s.extract 2 4)] w fun e w' => e = .returned (.int .i64 (gN s 2 4 : Nat)) ∧ w = w' := get_any (s.extract 2 4) w (by rw [ByteArray.size_extract]; omega)
set_option maxRecDepth 100000 in
set_option maxHeartbeats 3200000 in
theorem refSplit_any (s : ByteArray) (w : World) (hs : s.size ≤ 1000000000) : Calls Try.prog 28 #[.string s] w (Splitted s w) := by
  obtain ⟨i0, hi, hz0, hz1, hz2⟩ := info_parts infoPr
  obtain ⟨b, hb⟩ : ∃ b, w.heap.size = b := ⟨_, rfl⟩
  have Hb := Lib.hid hb
  clear hb
  go_enter Try.func28, Try.ntmps28
  go_wp2
  go_loopw [0, 4] (fun x v wr => ∃ (l : List PC) (s1 : ByteArray), x = .string s1 ∧ wr.ownsRow w.heap.size 63 3 v l.length (pcsV l) ∧ Below w.heap.size w wr ∧ l.length + s1.size ≤ s.size ∧ Hid (split s = ((split s1).1, l ++ (split s1).2))) (fun x _ _ => textLen x)
  case atStart => exact ⟨[], s, rfl, World.ownsRow_made _ _ _ (Nat.le_refl _) (by decide) rfl, (Below.refl _ _).alloc (Nat.le_refl _) _, by simp, Lib.hid (by rw [List.nil_append])⟩
  case round =>
    obtain ⟨l, s1, rfl, hown, hb1, hlen, HS⟩ := hrel
    have he := isEmpty_size s1
    have hs1 : s1.size ≤ 1000000000 := by omega
    by_cases h0 : s1.size = 0
    · obtain ⟨q1, q2⟩ := spl_end s s1 l HS.out h0
      have Q1 := Lib.hid q1
      have Q2 := Lib.hid q2
      clear q1 q2
      rw [decide_eq_true h0] at he
      clear h0
      obtain ⟨a, c, rfl, _, _, _, hr⟩ := own_readsP hown
      go_wp2
      go_ret2
      exact ⟨hb1, a, c, ret_split (by rw [Q2.out]) Q1.out.symm, by rw [Q2.out]; exact hr⟩
    · rw [decide_eq_false h0] at he
      have HE := fun k hk hk0 => spl_err s s1 l HS.out h0 k hk hk0
      have HE' := Lib.hid HE
      have HT := fun hk => spl_step s s1 l HS.out h0 hk
      have HT' := Lib.hid HT
      clear HE HT
      by_cases h4 : s1.size < 4
      · obtain ⟨q1, q2⟩ := HE'.out 2 (pcE_2 s1 h4) (by decide)
        have Q1 := Lib.hid q1
        have Q2 := Lib.hid q2
        clear q1 q2 h0
        go_wp2
        go_ret2
        exact ⟨hb1, none, 0, ret_split (by rw [Q2.out]; rfl) Q1.out.symm, by rw [Q2.out]; exact .inl rfl⟩
      · have x0 : fB s1 0 = s1[0].toNat := by unfold fB; rw [by_at s1 0 (by omega)]
        have x1 : fB s1 1 = s1[1].toNat := by unfold fB; rw [by_at s1 1 (by omega)]
        have b0 := UInt8.toNat_lt s1[0]
        have b1 := UInt8.toNat_lt s1[1]
        have P1 := Lib.hid (pcE_1 s1 h4)
        have P5 := Lib.hid (pcE_5 s1 h4)
        have P2 := Lib.hid (pcE_2b s1 h4)
        have P0 := Lib.hid (pcE_0 s1 h4)
        have HG := Lib.hid (fun W => get24 s1 W)
        have hFd : Hid (pcF s1 = ⟨(fB s1 0 % 32 : Nat), (fB s1 1 : Nat), s1.extract 4 (4 + 4 * gN s1 2 4)⟩) := Lib.hid rfl
        have hRd : Hid (pcR s1 = s1.extract (4 + 4 * gN s1 2 4) s1.size) := Lib.hid rfl
        have hgl : gN s1 2 4 ≤ 65535 := Nat.le_of_lt_succ (gN_lt s1 2 4 2 (by omega))
        generalize gN s1 2 4 = N at P2 P0 HG hFd hRd hgl
        rw [x0, x1] at P5 P2 P0 hFd
        rw [x0] at P1
        clear x0 x1
        have i1 : (0 : Int) < (s1.size : Int) := by omega
        have i2 : (1 : Int) < (s1.size : Int) := by omega
        have i3 : (4 : Int) ≤ (s1.size : Int) := by omega
        have hw1 : IntKind.i64.wrap (4 * (N : Int)) = 4 * (N : Int) := IntWalk.i64_in _ ⟨by omega, by omega⟩
        have hw2 : IntKind.i64.wrap (4 + 4 * (N : Int)) = 4 + 4 * (N : Int) := IntWalk.i64_in _ ⟨by omega, by omega⟩
        by_cases k1 : s1[0].toNat / 32 = 4
        · have t1 : (((s1[0].toNat : Nat) : Int) / 32 != 4) = false := by simp; omega
          by_cases k2 : s1[1].toNat < 192
          · obtain ⟨q1, q2⟩ := HE'.out 5 (P5.out k1 (.inl k2)) (by decide)
            have Q1 := Lib.hid q1
            have Q2 := Lib.hid q2
            clear q1 q2 h0 P1 P5 P2 P0 k1
            go_wp2_with ((go_at_call 54; refine (HG.out _).mono ?_; rintro e w' ⟨rfl, rfl⟩))
            go_ret2
            exact ⟨hb1, none, 0, ret_split (by rw [Q2.out]; rfl) Q1.out.symm, by rw [Q2.out]; exact .inl rfl⟩
          · by_cases k3 : 223 < s1[1].toNat
            · have t2 : decide (((s1[1].toNat : Nat) : Int) ≤ 223) = false := by simp; omega
              obtain ⟨q1, q2⟩ := HE'.out 5 (P5.out k1 (.inr k3)) (by decide)
              have Q1 := Lib.hid q1
              have Q2 := Lib.hid q2
              clear q1 q2 h0 P1 P5 P2 P0 k1
              go_wp2_with ((go_at_call 54; refine (HG.out _).mono ?_; rintro e w' ⟨rfl, rfl⟩))
              go_ret2
              exact ⟨hb1, none, 0, ret_split (by rw [Q2.out]; rfl) Q1.out.symm, by rw [Q2.out]; exact .inl rfl⟩
            · have t2 : decide (((s1[1].toNat : Nat) : Int) ≤ 223) = true := by simp; omega
              by_cases k4 : s1.size < 4 + 4 * N
              · obtain ⟨q1, q2⟩ := HE'.out 2 (P2.out k1 (by omega) k4) (by decide)
                have Q1 := Lib.hid q1
                have Q2 := Lib.hid q2
                clear q1 q2 h0 P1 P5 P2 P0 k1
                go_wp2_with ((go_at_call 54; refine (HG.out _).mono ?_; rintro e w' ⟨rfl, rfl⟩))
                go_ret2
                exact ⟨hb1, none, 0, ret_split (by rw [Q2.out]; rfl) Q1.out.symm, by rw [Q2.out]; exact .inl rfl⟩
              · have hE0 := P0.out k1 (by omega) k4
                have hst := Lib.hid (HT'.out hE0)
                have hlt := pcR_lt s1 hE0
                rw [hRd.out] at hst hlt
                rw [hFd.out] at hst
                have hpv : Hid (pcsV (l ++ [⟨((s1[0].toNat % 32 : Nat) : Int), ((s1[1].toNat : Nat) : Int), s1.extract 4 (4 + 4 * N)⟩]) = pcsV l ++ [.int .i64 ((s1[0].toNat % 32 : Nat) : Int), .int .i64 ((s1[1].toNat : Nat) : Int), .string (s1.extract 4 (4 + 4 * N))]) := Lib.hid (pcsV_snoc l _)
                have hc : ((s1[0].toNat % 32 : Nat) : Int) = (s1[0].toNat : Int) % 32 := by omega
                rw [hc] at hpv hst
                clear hE0 P1 P5 P2 P0 HE' HT' k1 h0 hc
                obtain ⟨a, c, rfl, _, _, _, _⟩ := own_readsP hown
                have hbs := hb1.size
                go_wp2_with (first | (go_at_call 54; refine (HG.out _).mono ?_; rintro e w' ⟨rfl, rfl⟩) | (at_builtin; refine append_rec rfl (.tmp 38) (.tmp 47) 57 rfl w.heap.size 63 i0 (.agg #[.int .i64 0, .int .i64 0, .string { data := #[] }]) 3 32 Try.underlying57 hi hz0 hz1 hz2 rfl (by decide) _ l.length (pcsV l) rfl hown #[.int .i64 ((s1[0].toNat : Int) % 32), .int .i64 ((s1[1].toNat : Nat) : Int), .string (s1.extract 4 (4 + 4 * N))] rfl rfl ?d1 ?d2 ?d3 w.heap.size (Nat.le_refl _) hbs hb1 ?_))
                case d1 => exact ⟨rfl, rfl, rfl⟩
                case d2 => unfold maxLen; omega
                case d3 => omega
                intro v' w3 hown3 hb3 _
                have hown4 : w3.ownsRow w.heap.size 63 3 v' (l ++ [(⟨(s1[0].toNat : Int) % 32, ((s1[1].toNat : Nat) : Int), s1.extract 4 (4 + 4 * N)⟩ : PC)]).length (pcsV (l ++ [(⟨(s1[0].toNat : Int) % 32, ((s1[1].toNat : Nat) : Int), s1.extract 4 (4 + 4 * N)⟩ : PC)])) := by
                  rw [hpv.out, List.length_append]
                  exact hown3
                clear hown hown3 hb1 hpv
                go_wp2
                go_roundw
                case rel => exact ⟨_, s1.extract (4 + 4 * N) s1.size, rfl, hown4, hb3, by rw [List.length_append]; show l.length + 1 + _ ≤ _; omega, hst⟩
                case measure => simp [textLen]; omega
        · have t1 : (((s1[0].toNat : Nat) : Int) / 32 != 4) = true := by simp; omega
          obtain ⟨q1, q2⟩ := HE'.out 1 (P1.out k1) (by decide)
          have Q1 := Lib.hid q1
          have Q2 := Lib.hid q2
          clear q1 q2 h0 P1 P5 P2 P0 k1
          go_wp2_with ((go_at_call 54; refine (HG.out _).mono ?_; rintro e w' ⟨rfl, rfl⟩))
          go_ret2
          exact ⟨hb1, none, 0, ret_split (by rw [Q2.out]; rfl) Q1.out.symm, by rw [Q2.out]; exact .inl rfl⟩
set_option maxHeartbeats 800000 in
theorem is_any (l : List PC) (a a2 : Option Addr) (c c2 : Nat) (w : World) (hr : ReadsP w a l) (hr2 : ReadsP w a2 l) (hl : l.length ≤ 1000000000) :
    Calls Try.prog 29 #[.slice a l.length c, .slice a2 l.length c2] w fun e w' => e = .returned (.bool true) ∧ Below w.heap.size w w' := by
  have HR := Lib.hid (fun W (h : Below w.heap.size w W) => hr.later h)
  have HR2 := Lib.hid (fun W (h : Below w.heap.size w W) => hr2.later h)
  clear hr hr2
  go_enter Try.func29, Try.ntmps29
  go_wp2
  go_loopw [13] (fun i wr => ∃ k : Nat, k ≤ l.length ∧ i = .int .i64 k ∧ Below w.heap.size w wr) (fun i _ => l.length - (intOf i).toNat)
  case atStart => exact ⟨0, Nat.zero_le _, rfl, Below.refl _ _⟩
  case round =>
    obtain ⟨k, hk, rfl, hb1⟩ := hrel
    by_cases hlt : k < l.length
    · obtain ⟨ab, off, rfl, c0, c1, c3⟩ := (HR.out _ hb1).at hlt
      obtain ⟨ab2, off2, rfl, d0, d1, d3⟩ := (HR2.out _ hb1).at hlt
      generalize l[k]?.getD zeroPC = p at c0 c1 c3 d0 d1 d3
      have i1 : (k : Int) < (l.length : Int) := by omega
      go_wp2_with fail
      go_quiet (fail)
      have hb2 := below_drewN hb1 nq
      go_wp2
      go_roundw
      case rel => exact ⟨k + 1, by omega, by go_num, hb2⟩
      case measure => simp [intOf]; omega
    · obtain rfl : k = l.length := by omega
      go_wp2
      go_ret
      exact ⟨rfl, hb1⟩
end Go.Proofs.Ytimdeohbhiicpaa
