/- share: the law's awake. -/
import Derived.Test.YtaiekbhpgbmalaaShR
namespace Go.Proofs.Ytaiekbhpgbmalaa
open Go.RowKit
set_option linter.unusedVariables false
set_option linter.unusedSimpArgs false
theorem reads_twoI (w : World) (x y : Int) (e : TypeId) : Reads .i64 (w.alloc (.cells #[.int .i64 x, .int .i64 y] e)) (some ⟨w.heap.size, 0, none⟩) [x, y] := by
  refine .inr ⟨w.heap.size, 0, rfl, fun i hi => ?_⟩
  match i, hi with
  | 0, _ => exact (cell_of_row _ _ 0 _ e (0, 0) (heap_alloc_new w _)).trans rfl
  | 1, _ => exact (cell_of_row _ _ 1 _ e (0, 0) (heap_alloc_new w _)).trans rfl
theorem whRd_two (w : World) (x k y u : Int) (e : TypeId) : WhRd (w.alloc (.cells #[.int .i64 x, .int .i64 k, .int .i64 y, .int .i64 u] e)) (some ⟨w.heap.size, 0, none⟩) [(x, k), (y, u)] := by
  refine .inr ⟨w.heap.size, rfl, fun i p q hi => ?_⟩
  match i, hi with
  | 0, hi => cases hi; exact ⟨(cell_of_row _ _ 0 _ e (0, 0) (heap_alloc_new w _)).trans rfl, (cell_of_row _ _ 1 _ e (0, 0) (heap_alloc_new w _)).trans rfl⟩
  | 1, hi => cases hi; exact ⟨(cell_of_row _ _ 2 _ e (0, 0) (heap_alloc_new w _)).trans rfl, (cell_of_row _ _ 3 _ e (0, 0) (heap_alloc_new w _)).trans rfl⟩
/-- Who carries, in the law's six rounds; what was carried; what is written. -/
def awP : Nat → Int | 0 => 1 | 1 => 2 | 2 => 1 | 3 => 1 | 4 => 2 | _ => 1
def awL : Nat → List SL | 0 => [⟨1, 2, 0⟩, ⟨2, 1, 0⟩] | 1 => [⟨1, 2, 10⟩, ⟨2, 1, 0⟩] | 2 => [⟨1, 2, 10⟩, ⟨2, 1, 10⟩] | 3 => [⟨1, 2, 20⟩, ⟨2, 1, 10⟩] | 4 => [⟨1, 2, 30⟩, ⟨2, 1, 10⟩] | 5 => [⟨1, 2, 30⟩, ⟨2, 1, 20⟩] | _ => [⟨1, 2, 40⟩, ⟨2, 1, 20⟩]
def awO : Nat → ByteArray | 0 => ⟨#[]⟩ | 1 => ⟨#[49]⟩ | 2 => ⟨#[49, 50]⟩ | 3 => ⟨#[49, 50, 49]⟩ | 4 => ⟨#[49, 50, 49, 49]⟩ | 5 => ⟨#[49, 50, 49, 49, 50]⟩ | _ => ⟨#[49, 50, 49, 49, 50, 49]⟩
theorem aw_len (k : Nat) (h : k ≤ 6) : (awL k).length = 2 := by match k, h with | 0, _ => rfl | 1, _ => rfl | 2, _ => rfl | 3, _ => rfl | 4, _ => rfl | 5, _ => rfl | 6, _ => rfl
theorem aw_ok (k : Nat) (h : k ≤ 6) : ShOk (awL k) := by
  match k, h with
  | 0, _ => exact ⟨by decide, by decide, by decide⟩
  | 1, _ => exact ⟨by decide, by decide, by decide⟩
  | 2, _ => exact ⟨by decide, by decide, by decide⟩
  | 3, _ => exact ⟨by decide, by decide, by decide⟩
  | 4, _ => exact ⟨by decide, by decide, by decide⟩
  | 5, _ => exact ⟨by decide, by decide, by decide⟩
  | 6, _ => exact ⟨by decide, by decide, by decide⟩
theorem aw_pick (k : Nat) (h : k < 6) : pickS (awL k) [1, 2] = (awP k, true) := by match k, h with | 0, _ => decide | 1, _ => decide | 2, _ => decide | 3, _ => decide | 4, _ => decide | 5, _ => decide
theorem aw_size (k : Nat) (h : k < 6) : (awO k).size ≤ 6 := by match k, h with | 0, _ => decide | 1, _ => decide | 2, _ => decide | 3, _ => decide | 4, _ => decide | 5, _ => decide
theorem aw_carry (k : Nat) (h : k < 6) : carryS (awL k) (awP k) 10 = awL (k + 1) := by match k, h with | 0, _ => rfl | 1, _ => rfl | 2, _ => rfl | 3, _ => rfl | 4, _ => rfl | 5, _ => rfl
theorem aw_p (k : Nat) (h : k < 6) : (awP k = 1 ∧ awO (k + 1) = awO k ++ ⟨#[49]⟩) ∨ (awP k = 2 ∧ awO (k + 1) = awO k ++ ⟨#[50]⟩) := by
  match k, h with | 0, _ => exact .inl ⟨rfl, rfl⟩ | 1, _ => exact .inr ⟨rfl, rfl⟩ | 2, _ => exact .inl ⟨rfl, rfl⟩ | 3, _ => exact .inl ⟨rfl, rfl⟩ | 4, _ => exact .inr ⟨rfl, rfl⟩ | 5, _ => exact .inl ⟨rfl, rfl⟩
theorem shRd_own {W : World} {B : Nat} {v : Value} {l : List SL} (h : W.ownsRow B 42 3 v l.length (shV l)) : ∃ a c, v = .slice a l.length c ∧ ShRd W a l := by
  by_cases h0 : 0 < l.length
  · obtain ⟨g, c, e, hi⟩ := own_shIn h h0
    exact ⟨_, c, e, .inr ⟨g, rfl, hi⟩⟩
  · have e : l = [] := List.eq_nil_of_length_eq_zero (by omega)
    subst e
    rcases h.2 with ⟨rfl, _⟩ | ⟨g, cap, cur, rfl, _⟩
    · exact ⟨_, _, rfl, .inl rfl⟩
    · exact ⟨_, _, rfl, .inl rfl⟩
theorem shPick_row (ls : List SL) (may : List Int) (gs B c2 : Nat) (v : Value) (a2 : Option Addr) (w : World) (hl : ls.length ≤ 1000) (ho : ShOk ls) (hS : At1 38 w gs v) (hR : w.ownsRow B 42 3 v ls.length (shV ls)) (hm : Reads .i64 w a2 may) (hml : may.length ≤ 1000000) (p : Int) (is : Bool) (hp : pickS ls may = (p, is)) :
    Calls Try.prog 7 #[.pointer (some ⟨gs, 0, none⟩), .slice a2 may.length c2] w fun e w' => e = .returned (.tuple #[.int .i64 p, .bool is]) ∧ Below w.heap.size w w' := by
  obtain ⟨a, c, rfl, hr⟩ := shRd_own hR
  have := shPick_any ls may gs ls.length c c2 a a2 w hS.cell rfl hl hr ho hm hml
  rw [hp] at this
  exact this
theorem shTotal_row (ls : List SL) (gs B : Nat) (v : Value) (w : World) (hl : ls.length ≤ 1000) (ho : ShOk ls) (hS : At1 38 w gs v) (hR : w.ownsRow B 42 3 v ls.length (shV ls)) :
    Calls Try.prog 9 #[.pointer (some ⟨gs, 0, none⟩)] w fun e w' => e = .returned (.int .i64 (sumCS ls)) ∧ Below w.heap.size w w' := by
  obtain ⟨a, c, rfl, hr⟩ := shRd_own hR
  exact shTotal_any ls gs ls.length c a w hS.cell rfl hl hr ho.c0
theorem conv_one (W : World) (a : Int) : Sem.run Try.prog (convert 35 9 (.slice (some ⟨W.heap.size, 0, none⟩) 1 1)) (W.alloc (.cells #[.int .u8 a] 5)) = Result.ok (.string (strOfNums [a])) (W.alloc (.cells #[.int .u8 a] 5)) := by
  refine run_convert_bytes_arg (P := Try.prog) _ 35 5 Try.underlying35 Try.underlying5 W.heap.size 0 1 1 [a] rfl (fun i hi => ?_) 9 Try.underlying9
  match i, hi with
  | 0, _ => simp
theorem str_49 : strOfNums [49] = ⟨#[49]⟩ := by rfl
theorem str_50 : strOfNums [50] = ⟨#[50]⟩ := by rfl
set_option maxRecDepth 100000 in
set_option maxHeartbeats 3200000 in
theorem shAwake_any (w : World) : Calls Try.prog 4 #[] w fun e w' => e = .returned (.bool true) ∧ Below w.heap.size w w' := by
  have HN := Lib.hid (shNew_any w)
  go_enter Try.func4, Try.ntmps4
  go_wp2_with fail
  refine HN.out.mono ?_
  rintro e w1 ⟨rfl, hS1, hk1⟩
  have hg1 := hS1.lt
  have hS2 := hS1.alloc (.cells #[.int .i64 1, .int .i64 2, .int .i64 2, .int .i64 1] 28)
  have hr2 := whRd_two w1 1 2 2 1 28
  have hb2 := hk1.alloc hk1.size (.cells #[.int .i64 1, .int .i64 2, .int .i64 2, .int .i64 1] 28)
  clear HN
  go_wp2_with fail
  generalize w1.alloc (.cells #[.int .i64 1, .int .i64 2, .int .i64 2, .int .i64 1] 28) = w2 at hS2 hr2 hb2 ⊢
  refine (shSet_any [(1, 2), (2, 1)] _ 2 2 _ w2 rfl hr2 (by decide) (by unfold WhUp; decide) hS2).mono ?_
  rintro e w3 ⟨rfl, ⟨v3, hS3, hR3⟩, hb3, _⟩
  have hR3' : w3.ownsRow w2.heap.size 42 3 v3 (awL 0).length (shV (awL 0)) := hR3
  have hs2 := hS2.lt
  generalize hB : w2.heap.size = B at hR3' hs2
  have hsz3 : B ≤ w3.heap.size := by rw [← hB]; exact hb3.size
  have hb4 : Below w.heap.size w w3 := hb2.trans hb3
  clear hS2 hr2 hb2 hb3 hR3 hk1 hS1 hB
  go_wp2_with fail
  go_loopw [2, 16] (fun o i wr => ∃ k : Nat, k ≤ 6 ∧ i = .int .i64 k ∧ o = .string (awO k) ∧ At1 38 wr w.heap.size v3 ∧ wr.ownsRow B 42 3 v3 (awL k).length (shV (awL k)) ∧ Below w.heap.size w wr ∧ B ≤ wr.heap.size) (fun _ i _ => 6 - (intOf i).toNat)
  case atStart => exact ⟨0, by decide, rfl, rfl, hS3, hR3', hb4, hsz3⟩
  case round =>
    obtain ⟨k, hk, rfl, rfl, hS, hR, hb, hsz⟩ := hrel
    clear hS3 hR3' hb4 hsz3
    by_cases hlt : k < 6
    · have hS4 := hS.alloc (.cells #[.int .i64 1, .int .i64 2] 3)
      have hal : Below wr.heap.size wr (wr.alloc (.cells #[.int .i64 1, .int .i64 2] 3)) := (Below.refl _ _).alloc (Nat.le_refl _) _
      have hR4 := own_laterS hR hal
      have hm4 := reads_twoI wr 1 2 3
      have hb4 := hb.trans (hal.mono hb.size)
      have hsz4 := Nat.le_trans hsz hal.size
      have HP := Lib.hid (aw_pick k hlt)
      have HC := Lib.hid (aw_carry k hlt)
      have HO := Lib.hid (aw_p k hlt)
      have HL := Lib.hid (aw_len k hk)
      have HL1 := Lib.hid (aw_len (k + 1) hlt)
      have HK := Lib.hid (aw_ok k hk)
      clear hS hR hb hsz hal
      go_wp2_with fail
      generalize wr.alloc (.cells #[.int .i64 1, .int .i64 2] 3) = w5 at hS4 hR4 hm4 hb4 hsz4 ⊢
      generalize wr.heap.size = g5 at hm4 ⊢
      refine (shPick_row _ [1, 2] _ B 2 v3 _ w5 (by rw [HL.out]; decide) HK.out hS4 hR4 hm4 (by decide) _ _ HP.out).mono ?_
      rintro e w6 ⟨rfl, hk6⟩
      have hS6 := hS4.later hk6
      have hR6 := own_laterS hR4 hk6
      have hb6 := hb4.trans (hk6.mono hb4.size)
      have hsz6 := Nat.le_trans hsz4 hk6.size
      clear hS4 hR4 hm4 hb4 hsz4 hk6
      go_wp2_with fail
      refine (shCarry_any _ _ 10 _ B v3 w6 (by rw [HL.out]; decide) HK.out (by decide) (by decide) hs2 hsz6 hS6 hR6).mono ?_
      rintro e w7 ⟨rfl, hS7, hR7, hb7, _, hsz7⟩
      rw [HC.out, HL.out, ← HL1.out] at hR7
      have hb8 := hb6.trans (hb7.mono (Nat.le_of_lt hs2))
      have hsz8 := Nat.le_trans hsz6 hsz7
      clear hS6 hR6 hb6 hb7 hsz6 hsz7 HP HC
      rcases HO.out with ⟨e1, e2⟩ | ⟨e1, e2⟩
      · have hcv := conv_one w7 49
        rw [str_49] at hcv
        rw [e1]
        have hz1 := aw_size k hlt
        have hz : ¬ (9223372036854775807 < (awO k).size + 1) := by omega
        have hb9 := hb8.alloc hb8.size (.cells #[.int .u8 49] 5)
        have hS9 := hS7.alloc (.cells #[.int .u8 49] 5)
        have hal : Below w7.heap.size w7 (w7.alloc (.cells #[.int .u8 49] 5)) := (Below.refl _ _).alloc (Nat.le_refl _) _
        have hR9 := own_laterS hR7 hal
        have hsz9 := Nat.le_trans hsz8 hal.size
        clear hal hb8 hS7 hR7 hsz8
        go_wp2_with fail
        go_roundw
        case rel => exact ⟨k + 1, by omega, by go_num, by rw [e2], hS9, hR9, hb9, hsz9⟩
        case measure => simp [intOf]; omega
      · have hcv := conv_one w7 50
        rw [str_50] at hcv
        rw [e1]
        have hz1 := aw_size k hlt
        have hz : ¬ (9223372036854775807 < (awO k).size + 1) := by omega
        have hb9 := hb8.alloc hb8.size (.cells #[.int .u8 50] 5)
        have hS9 := hS7.alloc (.cells #[.int .u8 50] 5)
        have hal : Below w7.heap.size w7 (w7.alloc (.cells #[.int .u8 50] 5)) := (Below.refl _ _).alloc (Nat.le_refl _) _
        have hR9 := own_laterS hR7 hal
        have hsz9 := Nat.le_trans hsz8 hal.size
        clear hal hb8 hS7 hR7 hsz8
        go_wp2_with fail
        go_roundw
        case rel => exact ⟨k + 1, by omega, by go_num, by rw [e2], hS9, hR9, hb9, hsz9⟩
        case measure => simp [intOf]; omega
    · obtain rfl : k = 6 := by omega
      have HT := Lib.hid (shTotal_row _ _ B v3 wr (by decide) (aw_ok 6 (by decide)) hS hR)
      have h6 : (awO 6).toList = [49, 50, 49, 49, 50, 49] := by rw [ByteArray.toList_eq]; rfl
      clear hR hS
      go_wp2_with fail
      refine HT.out.mono ?_
      rintro e w6 ⟨rfl, hk6⟩
      have hb6 := hb.trans (hk6.mono hb.size)
      have hsum : sumCS (awL 6) = 60 := by decide
      rw [hsum]
      go_wp2_with fail
      go_ret
      exact ⟨rfl, hb6⟩
end Go.Proofs.Ytaiekbhpgbmalaa
