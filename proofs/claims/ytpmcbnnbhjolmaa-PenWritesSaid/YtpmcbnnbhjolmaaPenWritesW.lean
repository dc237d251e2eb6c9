/- PenWrites: the walk. -/
import Derived.Test.YtpmcbnnbhjolmaaPenL
import Derived.Test.YtpmcbnnbhjolmaaCut
import Derived.Test.YtpmcbnnbhjolmaaRecs
import Derived.Deep.RegionHeld3
import Derived.Lib.Builder
namespace Go.Proofs.Ytpmcbnnbhjolmaa
open Go.RowKit
set_option linter.unusedVariables false
/-- An act. -/
def actP : List (Value → Prop) := [isNum .i64, isNum .i64, isText]
theorem act_at {w wr : World} {a : Option Addr} {n k : Nat} (h : Recs actP w a n) (hb : Below w.heap.size w wr) (hk : k < n) :
    ∃ b off, a = some ⟨b, off, none⟩ ∧ b < w.heap.size ∧ ∃ (kd m : Int) (s : ByteArray), wr.cell? ⟨b, off + k * 3, none⟩ = some (.int .i64 kd) ∧ wr.cell? ⟨b, off + k * 3 + 1, none⟩ = some (.int .i64 m) ∧ wr.cell? ⟨b, off + k * 3 + 2, none⟩ = some (.string s) ∧
      (-9223372036854775808 ≤ m ∧ m ≤ 9223372036854775807) ∧ s.size ≤ 9223372036854775807 := by
  rcases h with h | ⟨b, off, rfl, hlt, hc⟩
  · omega
  · obtain ⟨v0, h0, kd, rfl, _⟩ := hc k hk 0 _ rfl
    obtain ⟨v1, h1, m, rfl, hm⟩ := hc k hk 1 _ rfl
    obtain ⟨v2, h2, s, rfl, hs⟩ := hc k hk 2 _ rfl
    refine ⟨b, off, rfl, hlt, kd, m, s, ?_, ?_, ?_, ?_, ?_⟩
    · rw [hb.cell (p := ⟨b, off + k * 3, none⟩) hlt]; exact h0
    · rw [hb.cell (p := ⟨b, off + k * 3 + 1, none⟩) hlt]; exact h1
    · rw [hb.cell (p := ⟨b, off + k * 3 + 2, none⟩) hlt]; exact h2
    · simp [Lit.wf, IntKind.min, IntKind.max, IntKind.bits, IntKind.signed] at hm; exact hm
    · unfold maxLen at hs; exact hs
theorem put_at (S n : Int) (size : Nat) (w : World) (hS : S = (size : Int)) (h1 : -9223372036854775808 ≤ n) (h2 : n ≤ 9223372036854775807) (h4 : size ≤ 8) :
    Calls Try.prog 15 #[.int .i64 n, .int .i64 S] w fun e w' => e = .returned (.string (ofL (be n size))) ∧ Below w.heap.size w w' := by
  rw [hS]; exact put_any n size w h1 h2 h4
theorem act_kept {w w' : World} {g b : Nat} {x y z : Value} (h : w.heap[g]? = some (.cells #[x, y, z] 28 (0, 0))) (hg : g ≠ b) (ho : Others b w w') : w'.heap[g]? = some (.cells #[x, y, z] 28 (0, 0)) :=
  ho g _ h hg (by intro cur p e; cases e)
theorem act_cells {w : World} {g : Nat} {x y z : Value} (h : w.heap[g]? = some (.cells #[x, y, z] 28 (0, 0))) : w.cell? ⟨g, 1, none⟩ = some y ∧ w.cell? ⟨g, 2, none⟩ = some z := by
  have h1 := cell_of_row w g 1 _ _ (0, 0) h
  have h2 := cell_of_row w g 2 _ _ (0, 0) h
  exact ⟨by simpa using h1, by simpa using h2⟩
theorem ofL_small (L : List UInt8) (n : Nat) (h : L.length ≤ n) : (ofL L).size ≤ n := by rw [ofL_size]; exact h
theorem infoOut : (Try.prog.info? 26).map (·.size) = some 1 := by kernel_rfl
theorem out_ptr (W : World) (b : Nat) : (binOp .neq 29 (.pointer (some ⟨b, 0, none⟩)) (.pointer (some ⟨b, 0, none⟩))).run Try.prog W = .ok (.bool false) W := by
  obtain ⟨j, hj, _⟩ : ∃ j, Try.prog.info? 26 = some j ∧ j.size = 1 := by simpa using infoOut
  exact Lib.run_neq_ptr_same W _ Try.underlying29 hj
namespace penWrites
set_option maxRecDepth 100000 in
set_option maxHeartbeats 3200000 in
theorem walk (p0 : Option Addr) (len0 cap0 : Nat) (w : World) (w0 : Recs actP w p0 len0) (hl : len0 ≤ 9223372036854775807) :
    Calls Try.prog 3 #[.slice p0 len0 cap0] w fun e w' => e = .returned (.bool true) ∧ Below w.heap.size w w' := by
  go_enter Try.func3, Try.ntmps3
  go_wp2_with fail
  refine (penAwake_any _).mono ?_
  rintro e w1 ⟨rfl, hb⟩
  have hO := out_new w1 w.heap.size hb.size
  have hb1 := hb.alloc hb.size (.cells #[.slice none 0 0] 26)
  clear hb
  go_wp2_with fail
  generalize w1.heap.size = b at hO ⊢
  generalize w1.alloc (.cells #[.slice none 0 0] 26) = w2 at hO hb1 ⊢
  go_loopw [4, 5] (fun s i wr => ∃ (k : Nat) (L : List UInt8) (v : Value), k ≤ len0 ∧ k ≤ 20 ∧ i = .int .i64 k ∧ s = .string (ofL L) ∧ OutAt wr w.heap.size b v L ∧ L.length ≤ 40 * k ∧ Below w.heap.size w wr) (fun _ i _ => 20 - (intOf i).toNat)
  case atStart => exact ⟨0, [], _, Nat.zero_le _, by decide, rfl, rfl, hO, by simp, hb1⟩
  case round =>
    have hpp := fun W => out_ptr W b
    obtain ⟨k, L, v, hk, hk20, rfl, rfl, hO1, hL, hb2⟩ := hrel
    clear hO hb1
    by_cases hlt : k < len0
    · by_cases hlt2 : k < 20
      · obtain ⟨ba, off, rfl, hba, kd, m, s, hc0, hc1, hc2, ⟨hm1, hm2⟩, hs⟩ := act_at w0 hb2 hlt
        have hgb : wr.heap.size ≠ b := by have := hO1.lt; omega
        have hOa := hO1.alloc (.cells #[.int .i64 kd, .int .i64 m, .string s] 28)
        have hb3 := hb2.alloc hb2.size (.cells #[.int .i64 kd, .int .i64 m, .string s] 28)
        by_cases h0 : kd = 0
        · subst h0
          have hS1 := ofL_small L 800 (by omega)
          have hS2 := ofL_small (be m 1) 1 (by rw [be_len]; omega)
          have hq : ofL L ++ (ofL (be m 1) ++ { data := #[7] }) = ofL (L ++ bes [m, 7] 1) := by
            rw [bes_two, ofL_append, ofL_append]; rfl
          have hL2 : (L ++ bes [m, 7] 1).length ≤ 40 * (k + 1) := by rw [List.length_append, bes_len]; simp; omega
          go_wp2_with fail
          refine (u8_lit _ _ _ _ [m, 7] _ 2 _ _ (by simp) hOa rfl rfl (by simp; omega) (by simp)).mono ?_
          rintro e w3 ⟨rfl, v3, hO3, h3, ho3⟩
          have hact := act_kept (heap_alloc_new wr _) hgb ho3
          have hb4 := hb3.trans h3
          generalize wr.heap.size = g at hact hgb ⊢
          obtain ⟨ac1, ac2⟩ := act_cells hact
          generalize L ++ bes [m, 7] 1 = L2 at hO3 hL2 hq
          clear hO1 hb2 hOa hb3 h3 ho3 hc0 hc1 hc2
          go_wp2_with fail
          refine (put_at 1 m 1 _ rfl hm1 hm2 (by omega)).mono ?_
          rintro e w4 ⟨rfl, hb5⟩
          have hO4 := hO3.later hb5
          have hb6 := hb4.trans (hb5.mono hb4.size)
          clear hO3 hb5 hb4 hact ac1 ac2
          go_wp2_with ((go_at_call 21; refine (bytes_any _ _ _ _ _ hO4).mono ?_; rintro e w' ⟨rfl, rfl⟩))
          go_roundw
          case rel => exact ⟨k + 1, L2, v3, by omega, by omega, by go_num, rfl, hO4, hL2, hb6⟩
          case measure => simp [intOf]; omega
        · have k0 : (kd == 0) = false := by simpa using h0
          clear h0
          by_cases h1 : kd = 1
          · subst h1
            have hS1 := ofL_small L 800 (by omega)
            have hS2 := ofL_small (be m 2) 2 (by rw [be_len]; omega)
            have hq : ofL L ++ ofL (be m 2) = ofL (L ++ bes [m] 2) := by
              rw [bes_one, ofL_append]
            have hL2 : (L ++ bes [m] 2).length ≤ 40 * (k + 1) := by rw [List.length_append, bes_len]; simp; omega
            go_wp2_with fail
            refine (u16_lit _ _ _ _ [m] _ 1 _ _ (by simp) hOa rfl rfl (by simp; omega) (by simp)).mono ?_
            rintro e w3 ⟨rfl, v3, hO3, h3, ho3⟩
            have hact := act_kept (heap_alloc_new wr _) hgb ho3
            have hb4 := hb3.trans h3
            generalize wr.heap.size = g at hact hgb ⊢
            obtain ⟨ac1, ac2⟩ := act_cells hact
            generalize L ++ bes [m] 2 = L2 at hO3 hL2 hq
            clear hO1 hb2 hOa hb3 h3 ho3 hc0 hc1 hc2
            go_wp2_with fail
            refine (put_at 2 m 2 _ rfl hm1 hm2 (by omega)).mono ?_
            rintro e w4 ⟨rfl, hb5⟩
            have hO4 := hO3.later hb5
            have hb6 := hb4.trans (hb5.mono hb4.size)
            clear hO3 hb5 hb4 hact ac1 ac2
            go_wp2_with ((go_at_call 21; refine (bytes_any _ _ _ _ _ hO4).mono ?_; rintro e w' ⟨rfl, rfl⟩))
            go_roundw
            case rel => exact ⟨k + 1, L2, v3, by omega, by omega, by go_num, rfl, hO4, hL2, hb6⟩
            case measure => simp [intOf]; omega
          · have k1 : (kd == 1) = false := by simpa using h1
            clear h1
            by_cases h2 : kd = 2
            · subst h2
              have hS1 := ofL_small L 800 (by omega)
              have hS2 := ofL_small (be m 3) 3 (by rw [be_len]; omega)
              have hq : ofL L ++ (ofL (be m 3) ++ ofL (be m 3)) = ofL (L ++ bes [m, m] 3) := by
                rw [bes_two, ofL_append, ofL_append]
              have hL2 : (L ++ bes [m, m] 3).length ≤ 40 * (k + 1) := by rw [List.length_append, bes_len]; simp; omega
              go_wp2_with fail
              refine (u24_lit _ _ _ _ [m, m] _ 2 _ _ (by simp) hOa rfl rfl (by simp; omega) (by simp)).mono ?_
              rintro e w3 ⟨rfl, v3, hO3, h3, ho3⟩
              have hact := act_kept (heap_alloc_new wr _) hgb ho3
              have hb4 := hb3.trans h3
              have hgl : wr.heap.size < w3.heap.size := lt_of_block hact
              generalize wr.heap.size = g at hact hgb hgl ⊢
              obtain ⟨ac1, ac2⟩ := act_cells hact
              generalize L ++ bes [m, m] 3 = L2 at hO3 hL2 hq
              clear hO1 hb2 hOa hb3 h3 ho3 hc0 hc1 hc2
              go_wp2_with fail
              have tok1 : True := trivial
              have hadd : ∀ W : World, Sem.run Try.prog (Op.stringOp .add (ofL (be m 3)) (ofL (be m 3))) W = Result.ok (.string (ofL (be m 3) ++ ofL (be m 3))) W := fun W => run_string_add_sum _ _ _ (by omega)
              have hsz : (ofL (be m 3) ++ ofL (be m 3)).size ≤ 6 := by rw [ByteArray.size_append]; omega
              generalize ofL (be m 3) ++ ofL (be m 3) = Y2 at hadd hq hsz
              have hadd2 : ∀ W : World, Sem.run Try.prog (Op.stringOp .add (ofL L) Y2) W = Result.ok (.string (ofL L2)) W := fun W => by rw [← hq]; exact run_string_add_sum _ _ _ (by omega)
              clear hq
              go_region_held3 (fun w' => w'.cell? ⟨g, 1, none⟩ = some (.int .i64 m) ∧ g < w'.heap.size) (first | go_keep | (go_split_ands; refine ⟨?_, ?_⟩; (rw [Below.cell (p := ⟨g, 1, none⟩) (by assumption) (by assumption)]; assumption); (have := Below.size (by assumption); omega))) (first | (have _t := tok1; go_at_call 15; refine (put_at 3 m 3 _ rfl hm1 hm2 (by omega)).mono ?_; rintro e w' ⟨rfl, hbA⟩; clear tok1) | (go_at_call 15; refine (put_at 3 m 3 _ rfl hm1 hm2 (by omega)).mono ?_; rintro e w' ⟨rfl, hbB⟩))
              have hO4 := (hO3.drew.later hbA).later hbB
              have k1 := hb4.drew.trans (hbA.mono hb4.drew.size)
              have hb6 := k1.trans (hbB.mono k1.size)
              clear hO3 hbA hbB hb4 hact ac1 ac2 k1 hadd hadd2
              go_wp2_with ((go_at_call 21; refine (bytes_any _ _ _ _ _ hO4).mono ?_; rintro e w' ⟨rfl, rfl⟩))
              go_roundw
              case rel => exact ⟨k + 1, L2, v3, by omega, by omega, by go_num, rfl, hO4, hL2, hb6⟩
              case measure => simp [intOf]; omega
            · have k2 : (kd == 2) = false := by simpa using h2
              clear h2
              by_cases h3 : kd = 3
              · subst h3
                have hS1 := ofL_small L 800 (by omega)
                have hS2 := ofL_small (be m 4) 4 (by rw [be_len]; omega)
                have hq : ofL L ++ ofL (be m 4) = ofL (L ++ bes [m % 4294967296] 4) := by
                  rw [bes_one, be_low4, ofL_append]
                have hL2 : (L ++ bes [m % 4294967296] 4).length ≤ 40 * (k + 1) := by rw [List.length_append, bes_len]; simp; omega
                go_wp2_with fail
                refine (u32_lit _ _ _ _ [m % 4294967296] _ 1 _ _ (by simp) hOa rfl rfl (by simp; omega) (by simp)).mono ?_
                rintro e w3 ⟨rfl, v3, hO3, h3, ho3⟩
                have hact := act_kept (heap_alloc_new wr _) hgb ho3
                have hb4 := hb3.trans h3
                generalize wr.heap.size = g at hact hgb ⊢
                obtain ⟨ac1, ac2⟩ := act_cells hact
                generalize L ++ bes [m % 4294967296] 4 = L2 at hO3 hL2 hq
                clear hO1 hb2 hOa hb3 h3 ho3 hc0 hc1 hc2
                go_wp2_with fail
                refine (put_at 4 m 4 _ rfl hm1 hm2 (by omega)).mono ?_
                rintro e w4 ⟨rfl, hb5⟩
                have hO4 := hO3.later hb5
                have hb6 := hb4.trans (hb5.mono hb4.size)
                clear hO3 hb5 hb4 hact ac1 ac2
                go_wp2_with ((go_at_call 21; refine (bytes_any _ _ _ _ _ hO4).mono ?_; rintro e w' ⟨rfl, rfl⟩))
                go_roundw
                case rel => exact ⟨k + 1, L2, v3, by omega, by omega, by go_num, rfl, hO4, hL2, hb6⟩
                case measure => simp [intOf]; omega
              · have k3 : (kd == 3) = false := by simpa using h3
                clear h3
                have hA := (cut_size s 20).1
                have hS1 := ofL_small L 800 (by omega)
                go_wp2_with ((go_at_call 19; refine (cut_any s 20 _ hs (by omega)).mono ?_; rintro e w' ⟨rfl, rfl⟩))
                generalize cutB s 20 = x at hA ⊢
                have hq : ofL L ++ (x ++ x) = ofL (L ++ cat [x, { data := #[] }, x]) := by
                  apply by_inj
                  rw [by_append, by_append, by_ofL, by_ofL]
                  simp [cat, by_]
                have hL2 : (L ++ cat [x, { data := #[] }, x]).length ≤ 40 * (k + 1) := by
                  have hz0 : (ByteArray.mk #[]).size = 0 := rfl
                  rw [List.length_append]; simp [cat, by_len]; omega
                refine (outRaw_lit _ _ _ _ [x, { data := #[] }, x] _ 3 _ _ (by simp) hOa rfl rfl (by rw [← List.length_append]; omega) (by simp)).mono ?_
                rintro e w3 ⟨rfl, v3, hO4, h3, ho3⟩
                have hb6 := hb3.trans h3
                generalize L ++ cat [x, { data := #[] }, x] = L2 at hO4 hL2 hq
                clear hO1 hb2 hOa hb3 h3 ho3 hc0 hc1 hc2
                go_wp2_with ((go_at_call 21; refine (bytes_any _ _ _ _ _ hO4).mono ?_; rintro e w' ⟨rfl, rfl⟩))
                go_roundw
                case rel => exact ⟨k + 1, L2, v3, by omega, by omega, by go_num, rfl, hO4, hL2, hb6⟩
                case measure => simp [intOf]; omega
      · obtain rfl : k = 20 := by omega
        go_wp2
        go_ret
        exact ⟨rfl, hb2⟩
    · obtain rfl : k = len0 := by omega
      go_wp2
      go_ret
      exact ⟨rfl, hb2⟩
end penWrites
end Go.Proofs.Ytpmcbnnbhjolmaa
