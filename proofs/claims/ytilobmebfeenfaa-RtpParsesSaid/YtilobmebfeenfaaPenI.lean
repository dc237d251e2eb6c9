/- pen.In: what its calls answer. -/
import Derived.Test.YtilobmebfeenfaaBase
namespace Go.Proofs.Ytilobmebfeenfaa
open Go.RowKit
set_option linter.unusedVariables false
/-- At block b there is an In: what is left, and the first error. -/
def InAt (w : World) (b : Nat) (s : ByteArray) (er : Int) : Prop := w.heap[b]? = some (.cells #[.string s, .int .i64 er] 111 (0, 0))
/-- Nothing but block b has turned. -/
structure Only (b : Nat) (w w' : World) : Prop where
  os : w'.os = w.os
  tape : w'.tape = w.tape
  output : w'.output = w.output
  size : w'.heap.size = w.heap.size
  block : ∀ k, k ≠ b → w'.heap[k]? = w.heap[k]?
theorem Only.refl (b : Nat) (w : World) : Only b w w := ⟨rfl, rfl, rfl, rfl, fun _ _ => rfl⟩
theorem Only.trans {b : Nat} {w w' w'' : World} (h : Only b w w') (k : Only b w' w'') : Only b w w'' :=
  ⟨k.os.trans h.os, k.tape.trans h.tape, k.output.trans h.output, k.size.trans h.size, fun i hi => (k.block i hi).trans (h.block i hi)⟩
theorem Only.setCell {b : Nat} {w w' : World} (h : Only b w w') (i : Nat) (u : Value) : Only b w (w'.setCell ⟨b, i, none⟩ u) :=
  ⟨h.os, h.tape, h.output, by simp [World.setCell, h.size], fun k hk => by rw [Below.heap_setCell _ _ _ _ hk]; exact h.block k hk⟩
theorem Only.drew {b : Nat} {w w' : World} (h : Only b w w') : Only b w w'.drew := ⟨h.os, h.tape, h.output, h.size, h.block⟩
theorem Only.below {b B : Nat} {w w' : World} (h : Only b w w') (hB : B ≤ b) : Below B w w' := ⟨h.os, h.tape, h.output, by rw [h.size]; exact Nat.le_refl _, fun k hk => h.block k (by omega)⟩
theorem InAt.lt {w : World} {b : Nat} {s : ByteArray} {er : Int} (h : InAt w b s er) : b < w.heap.size := lt_of_block h
theorem InAt.later {w w' : World} {b : Nat} {s : ByteArray} {er : Int} (h : InAt w b s er) (hb : Below w.heap.size w w') : InAt w' b s er := by
  unfold InAt; rw [hb.block b h.lt]; exact h
theorem InAt.cell0 {w : World} {b : Nat} {s : ByteArray} {er : Int} (h : InAt w b s er) : w.cell? ⟨b, 0, none⟩ = some (.string s) := by
  have := cell_of_row w b 0 _ _ (0, 0) h; simpa using this
theorem InAt.cell1 {w : World} {b : Nat} {s : ByteArray} {er : Int} (h : InAt w b s er) : w.cell? ⟨b, 1, none⟩ = some (.int .i64 er) := by
  have := cell_of_row w b 1 _ _ (0, 0) h; simpa using this
theorem InAt.free {w : World} {b : Nat} {s : ByteArray} {er : Int} (h : InAt w b s er) (i : Nat) : w.frozen? ⟨b, i, none⟩ = false := by
  unfold InAt at h; simp [World.frozen?, h]
theorem block_setCell {w : World} {b i : Nat} {cs : Array Value} {t : TypeId} {u : Value} (h : w.heap[b]? = some (.cells cs t (0, 0))) : (w.setCell ⟨b, i, none⟩ u).heap[b]? = some (.cells (cs.setIfInBounds i u) t (0, 0)) := by
  have hlt := lt_of_block h
  have h' : w.heap[b] = .cells cs t (0, 0) := by simpa [Array.getElem?_eq_getElem hlt] using h
  show (w.heap.modify b _)[b]? = _
  rw [Array.getElem?_eq_getElem (by simpa using hlt), Array.getElem_modify_self, h']
  rfl
theorem InAt.set0 {w : World} {b : Nat} {s s' : ByteArray} {er : Int} (h : InAt w b s er) : InAt (w.setCell ⟨b, 0, none⟩ (.string s')) b s' er := by
  unfold InAt; rw [block_setCell h]; rfl
theorem InAt.set1 {w : World} {b : Nat} {s : ByteArray} {er er' : Int} (h : InAt w b s er) : InAt (w.setCell ⟨b, 1, none⟩ (.int .i64 er')) b s er' := by
  unfold InAt; rw [block_setCell h]; rfl
theorem of_any (s : ByteArray) (w : World) : Calls Try.prog 25 #[.string s] w fun e w' => e = .returned (.pointer (some ⟨w.heap.size, 0, none⟩)) ∧ w' = w.alloc (.cells #[.string s, .int .i64 0] 111) := by
  go_enter Try.func25, Try.ntmps25
  go_wp2
  go_ret
  exact ⟨rfl, rfl⟩
theorem inAt_new (s : ByteArray) (w : World) : InAt (w.alloc (.cells #[.string s, .int .i64 0] 111)) w.heap.size s 0 := heap_alloc_new w _
theorem left_any (b : Nat) (s : ByteArray) (er : Int) (w : World) (h : InAt w b s er) : Calls Try.prog 30 #[.pointer (some ⟨b, 0, none⟩)] w fun e w' => e = .returned (.int .i64 s.size) ∧ w = w' := by
  have h0 := h.cell0
  go_enter Try.func30, Try.ntmps30
  go_wp2
  go_ret
  exact ⟨rfl, rfl⟩
theorem err_any (b : Nat) (s : ByteArray) (er : Int) (w : World) (h : InAt w b s er) : Calls Try.prog 28 #[.pointer (some ⟨b, 0, none⟩)] w fun e w' => e = .returned (.int .i64 er) ∧ w = w' := by
  have h0 := h.cell1
  go_enter Try.func28, Try.ntmps28
  go_wp2
  go_ret
  exact ⟨rfl, rfl⟩
/-- What End answers. -/
def endE (s : ByteArray) (er : Int) : Int := if s.size = 0 then er else 1
/-- What a call that takes leaves. -/
def Took (b : Nat) (r : Value) (s : ByteArray) (er : Int) (w : World) (e : Ending) (w' : World) : Prop := e = .returned r ∧ InAt w' b s er ∧ Only b w w'
def failS (s : ByteArray) (er k : Int) : ByteArray := if er = 0 ∧ k ≠ 0 then { data := #[] } else s
def failE (er k : Int) : Int := if er = 0 ∧ k ≠ 0 then k else er
theorem fail_any (b : Nat) (s : ByteArray) (er k : Int) (w : World) (h : InAt w b s er) : Calls Try.prog 56 #[.pointer (some ⟨b, 0, none⟩), .int .i64 k] w (Took b (.tuple #[]) (failS s er k) (failE er k) w) := by
  have h0 := h.cell0
  have h1 := h.cell1
  have f0 := h.free 0
  have f1 := h.free 1
  by_cases he : er = 0
  · by_cases hk : k = 0
    · subst hk he
      go_enter Try.func56, Try.ntmps56
      go_wp2
      go_end0
      exact ⟨rfl, h, Only.refl _ _⟩
    · have hE : failE er k = k := by unfold failE; rw [if_pos ⟨he, hk⟩]
      have hS : failS s er k = { data := #[] } := by unfold failS; rw [if_pos ⟨he, hk⟩]
      have hkb : (k == 0) = false := by simpa using hk
      rw [hE, hS]
      clear hE hS hk
      subst he
      go_enter Try.func56, Try.ntmps56
      go_wp2
      go_end0
      exact ⟨rfl, h.set1.set0, ((Only.refl _ _).setCell 1 _).setCell 0 _⟩
  · have hE : failE er k = er := by unfold failE; rw [if_neg (fun h => he h.1)]
    have hS : failS s er k = s := by unfold failS; rw [if_neg (fun h => he h.1)]
    have heb : (er == 0) = false := by simpa using he
    rw [hE, hS]
    clear hE hS he
    go_enter Try.func56, Try.ntmps56
    go_wp2
    go_end0
    exact ⟨rfl, h, Only.refl _ _⟩
/-- What Raw takes, leaves, tells. -/
def rawN (n : Int) : Nat := (max n 0).toNat
def rawT (s : ByteArray) (n : Int) : ByteArray := if s.size < rawN n then { data := #[] } else s.extract 0 (rawN n)
def rawS (s : ByteArray) (er n : Int) : ByteArray := if s.size < rawN n then failS s er 2 else s.extract (rawN n) s.size
def rawE (s : ByteArray) (er n : Int) : Int := if s.size < rawN n then failE er 2 else er
theorem inRaw_any (b : Nat) (s : ByteArray) (er n : Int) (w : World) (h : InAt w b s er) (hs : s.size ≤ 9223372036854775807) : Calls Try.prog 29 #[.pointer (some ⟨b, 0, none⟩), .int .i64 n] w (Took b (.string (rawT s n)) (rawS s er n) (rawE s er n) w) := by
  have h0 := h.cell0
  have f0 := h.free 0
  by_cases hbig : s.size < rawN n
  · have e1 : rawT s n = { data := #[] } := by unfold rawT; rw [if_pos hbig]
    have e2 : rawS s er n = failS s er 2 := by unfold rawS; rw [if_pos hbig]
    have e3 : rawE s er n = failE er 2 := by unfold rawE; rw [if_pos hbig]
    rw [e1, e2, e3]
    have hn0 : (s.size : Int) < n := by unfold rawN at hbig; omega
    have hn1 : 0 < n := by omega
    clear e1 e2 e3 hbig
    have HC := fail_any b s er 2 w h
    go_enter Try.func29, Try.ntmps29
    go_wp2_with ((go_at_call 56; refine (HC).mono ?_; rintro e w' ⟨rfl, hx, ho⟩))
    go_ret
    exact ⟨rfl, hx, ho⟩
  · have e1 : rawT s n = s.extract 0 (rawN n) := by unfold rawT; rw [if_neg hbig]
    have e2 : rawS s er n = s.extract (rawN n) s.size := by unfold rawS; rw [if_neg hbig]
    have e3 : rawE s er n = er := by unfold rawE; rw [if_neg hbig]
    rw [e1, e2, e3]
    clear e1 e2 e3
    by_cases hneg : n < 0
    · unfold rawN
      clear hbig
      go_enter Try.func29, Try.ntmps29
      go_wp2
      go_ret
      exact ⟨rfl, h.set0, (Only.refl _ _).setCell 0 _⟩
    · obtain ⟨m, rfl⟩ : ∃ m : Nat, n = (m : Int) := ⟨n.toNat, by omega⟩
      have hN : rawN (m : Int) = m := by unfold rawN; omega
      rw [hN] at hbig ⊢
      have hle : (m : Int) ≤ (s.size : Int) := by omega
      clear hN hbig hneg
      go_enter Try.func29, Try.ntmps29
      go_wp2
      all_goals
        go_ret
        exact ⟨rfl, h.set0, (Only.refl _ _).setCell 0 _⟩
/-- The number of bytes, the highest first. -/
def getN (l : List UInt8) : Nat := l.foldl (fun n b => 256 * n + b.toNat) 0
theorem getN_snoc (l : List UInt8) (c : UInt8) : getN (l ++ [c]) = 256 * getN l + c.toNat := by simp [getN]
theorem foldN_lt (l : List UInt8) : ∀ a : Nat, l.foldl (fun n b => 256 * n + b.toNat) a < (a + 1) * 256 ^ l.length := by
  induction l with
  | nil => intro a; simp
  | cons c l ih =>
    intro a
    have h := ih (256 * a + c.toNat)
    have hc := UInt8.toNat_lt c
    have hm : (256 * a + c.toNat + 1) * 256 ^ l.length ≤ (256 * (a + 1)) * 256 ^ l.length := Nat.mul_le_mul_right _ (by omega)
    rw [List.foldl_cons, List.length_cons, Nat.pow_succ]
    have e : (a + 1) * (256 ^ l.length * 256) = (256 * (a + 1)) * 256 ^ l.length := by rw [Nat.mul_comm (256 ^ l.length) 256, ← Nat.mul_assoc, Nat.mul_comm 256 (a + 1)]
    rw [e]
    exact Nat.lt_of_lt_of_le h hm
theorem getN_lt (l : List UInt8) : getN l < 256 ^ l.length := by
  have h := foldN_lt l 0
  unfold getN
  omega
theorem getN_4 (l : List UInt8) (h : l.length ≤ 4) : getN l < 4294967296 := Nat.lt_of_lt_of_le (getN_lt l) (Nat.le_trans (Nat.pow_le_pow_right (by decide) h) (by decide))
theorem getN_3 (l : List UInt8) (h : l.length ≤ 3) : getN l < 16777216 := Nat.lt_of_lt_of_le (getN_lt l) (Nat.le_trans (Nat.pow_le_pow_right (by decide) h) (by decide))
theorem take_succ_by (s : ByteArray) (k : Nat) (h : k < s.size) : (by_ s).take (k + 1) = (by_ s).take k ++ [s[k]] := by
  rw [List.take_succ_eq_append_getElem (by rw [by_len]; exact h)]; rfl
theorem or_num (r c : Nat) (hr : r < 16777216) (hc : c < 256) : bits .or .u32 ((r : Int) * 256) (c : Int) = ((256 * r + c : Nat) : Int) := by
  rw [show ((r : Int) * 256) = ((256 * r : Nat) : Int) from by omega, u32_or_nat _ _ (by omega) (by omega)]
  have := Nat.two_pow_add_eq_or_of_lt (i := 8) (b := c) (by omega) r
  simp at this
  rw [← this]
theorem rawT_size (s : ByteArray) (n : Int) : (rawT s n).size ≤ rawN n ∧ (rawT s n).size ≤ s.size := by
  unfold rawT
  split
  · exact ⟨Nat.zero_le _, Nat.zero_le _⟩
  · simp; omega
theorem number_any (b : Nat) (s : ByteArray) (er n : Int) (w : World) (h : InAt w b s er) (hs : s.size ≤ 9223372036854775807) (h4 : n ≤ 4) : Calls Try.prog 53 #[.pointer (some ⟨b, 0, none⟩), .int .i64 n] w (Took b (.int .u32 (getN (by_ (rawT s n)) : Int)) (rawS s er n) (rawE s er n) w) := by
  have HC := inRaw_any b s er n w h hs
  have hz : (rawT s n).size ≤ 4 := by have := (rawT_size s n).1; unfold rawN at this; omega
  generalize rawT s n = t at HC hz
  generalize rawS s er n = s' at HC
  generalize rawE s er n = er' at HC
  go_enter Try.func53, Try.ntmps53
  go_wp2_with ((go_at_call 29; refine (HC).mono ?_; rintro e w' ⟨rfl, hx, ho⟩))
  go_loop [6, 13] (fun r i => ∃ k : Nat, k ≤ t.size ∧ i = .int .i64 k ∧ r = .int .u32 (getN ((by_ t).take k) : Int)) (fun _ i => t.size - (intOf i).toNat)
  case atStart => exact ⟨0, Nat.zero_le _, rfl, rfl⟩
  case round =>
    obtain ⟨k, hk, rfl, rfl⟩ := hrel
    by_cases hlt : k < t.size
    · have hts := take_succ_by t k hlt
      have hst : Hid (getN ((by_ t).take (k + 1)) = 256 * getN ((by_ t).take k) + t[k].toNat) := by show _ = _; rw [hts, getN_snoc]
      have hb3 := getN_3 ((by_ t).take k) (by rw [List.length_take, by_len]; omega)
      have hc := UInt8.toNat_lt t[k]
      clear hts
      generalize getN ((by_ t).take k) = r at hst hb3
      have hor := or_num r t[k].toNat hb3 hc
      go_wp2
      go_round
      case rel => exact ⟨k + 1, by omega, by go_num, by rw [hst.out]; congr 1⟩
      case measure => simp [intOf]; omega
    · obtain rfl : k = t.size := by omega
      have hta := take_all t
      go_wp2
      go_ret
      exact ⟨rfl, hx, ho⟩
theorem inU8_any (b : Nat) (s : ByteArray) (er : Int) (w : World) (h : InAt w b s er) (hs : s.size ≤ 9223372036854775807) : Calls Try.prog 26 #[.pointer (some ⟨b, 0, none⟩)] w (Took b (.int .i64 (getN (by_ (rawT s 1)) : Int)) (rawS s er 1) (rawE s er 1) w) := by
  have HC := number_any b s er 1 w h hs (by decide)
  have hlt := getN_4 (by_ (rawT s 1)) (by rw [by_len]; have := (rawT_size s 1).1; unfold rawN at this; omega)
  generalize getN (by_ (rawT s 1)) = r at HC hlt
  go_enter Try.func26, Try.ntmps26
  go_wp2_with ((go_at_call 53; refine (HC).mono ?_; rintro e w' ⟨rfl, hx, ho⟩))
  go_ret
  exact ⟨rfl, hx, ho⟩
theorem inU16_any (b : Nat) (s : ByteArray) (er : Int) (w : World) (h : InAt w b s er) (hs : s.size ≤ 9223372036854775807) : Calls Try.prog 54 #[.pointer (some ⟨b, 0, none⟩)] w (Took b (.int .i64 (getN (by_ (rawT s 2)) : Int)) (rawS s er 2) (rawE s er 2) w) := by
  have HC := number_any b s er 2 w h hs (by decide)
  have hlt := getN_4 (by_ (rawT s 2)) (by rw [by_len]; have := (rawT_size s 2).1; unfold rawN at this; omega)
  generalize getN (by_ (rawT s 2)) = r at HC hlt
  go_enter Try.func54, Try.ntmps54
  go_wp2_with ((go_at_call 53; refine (HC).mono ?_; rintro e w' ⟨rfl, hx, ho⟩))
  go_ret
  exact ⟨rfl, hx, ho⟩
theorem inU32_any (b : Nat) (s : ByteArray) (er : Int) (w : World) (h : InAt w b s er) (hs : s.size ≤ 9223372036854775807) : Calls Try.prog 55 #[.pointer (some ⟨b, 0, none⟩)] w (Took b (.int .u32 (getN (by_ (rawT s 4)) : Int)) (rawS s er 4) (rawE s er 4) w) := by
  have HC := number_any b s er 4 w h hs (by decide)
  have hlt := getN_4 (by_ (rawT s 4)) (by rw [by_len]; have := (rawT_size s 4).1; unfold rawN at this; omega)
  generalize getN (by_ (rawT s 4)) = r at HC hlt
  go_enter Try.func55, Try.ntmps55
  go_wp2_with ((go_at_call 53; refine (HC).mono ?_; rintro e w' ⟨rfl, hx, ho⟩))
  go_ret
  exact ⟨rfl, hx, ho⟩
end Go.Proofs.Ytilobmebfeenfaa
