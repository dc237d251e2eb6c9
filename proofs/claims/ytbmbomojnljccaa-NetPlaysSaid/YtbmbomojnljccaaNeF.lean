/- net: begin, Send, Forge. -/
import Derived.Test.YtbmbomojnljccaaNeE
namespace Go.Proofs.Ytbmbomojnljccaa
open Go.RowKit Go.Maps
set_option linter.unusedVariables false
set_option linter.unusedSimpArgs false
/-- One count more. -/
def bump (c : Nat → Int) (q : Nat) : Nat → Int := fun i => if i = q then c i + 1 else c i
theorem bump_same (c : Nat → Int) (q : Nat) : bump c q q = c q + 1 := by simp [bump]
theorem bump_other (c : Nat → Int) {q i : Nat} (h : i ≠ q) : bump c q i = c i := by simp [bump, h]
theorem NIn.mono {W : World} {base gn n n' : Nat} {x : NE} (h : NIn W base gn n x) (hn : n ≤ n') : NIn W base gn n' x := by
  refine ⟨h.bs, h.at9, ?_, h.own, h.nil, h.ap, h.pl, h.tx, h.ln⟩
  rcases h.mem with h1 | ⟨b, e, hb2, hm⟩
  · exact .inl h1
  · exact .inr ⟨b, e, hb2, hm.mono hn⟩
def NE.more (x : NE) (q : Nat) : NE := { x with c := bump x.c q }
theorem NIn.more {w : World} {base gn n : Nat} {x : NE} (h : NIn w base gn n x) (q : Nat) (hq : q < 6) : NIn (w.setCell ⟨gn, 3 + q, none⟩ (.int .i64 (x.c q + 1))) base gn n (x.more q) ∧ NKeep gn x w (w.setCell ⟨gn, 3 + q, none⟩ (.int .i64 (x.c q + 1))) (x.more q) := by
  have ho := (Only.refl gn w).setCell (3 + q) (.int .i64 (x.c q + 1))
  have h9 : AtQ 62 (w.setCell ⟨gn, 3 + q, none⟩ (.int .i64 (x.c q + 1))) gn (x.more q).cells := by
    have h0 := h.at9
    obtain ⟨m, b, mp, V, G, c⟩ := x
    match q, hq with
    | 0, _ => exact block_setCell h0
    | 1, _ => exact block_setCell h0
    | 2, _ => exact block_setCell h0
    | 3, _ => exact block_setCell h0
    | 4, _ => exact block_setCell h0
    | 5, _ => exact block_setCell h0
  refine ⟨⟨h.bs, h9, ?_, fun a p => ?_, h.nil, h.ap, h.pl, h.tx, h.ln⟩, ⟨by rw [ho.size]; exact Nat.le_refl _, fun k hk hf => ho.block k (fun e => hf (.inl e)), fun k hk => .inl hk, sameE_only ho⟩⟩
  · rcases h.mem with h1 | ⟨b, e, hb2, hm⟩
    · exact .inl h1
    · exact .inr ⟨b, e, hb2, hm.same (ho.block _ (h.map_ne e))⟩
  · exact (h.own a p).keep (by rw [ho.size]; exact Nat.le_refl _) (fun k cs hk _ => ho.block k (fun e => h.row_ne a p (by rw [hk, e])))
def neOk (x : NE) (a p : Int) (s : ByteArray) : Bool := neIs a p && decide (s.size ≠ 0) && decide (s.size ≤ 1500) && neRoom x a p s
/-- How Send and Forge end. -/
inductive NePut (x : NE) (a p : Int) (s : ByteArray) (q : Nat) : Bool → NE → Prop
  | yes (hok : neOk x a p s = true) (v' : Value) (mp' : Option Nat) : NePut x a p s q true (({ x with mp := mp' }.set a p v' (x.G a p ++ [s])).more q)
  | no (hok : neOk x a p s = false) : NePut x a p s q false (x.more 1)
theorem neIs_pl {a p : Int} (h : neIs a p = true) : (a = 0 ∨ a = 1) ∧ 1 ≤ p ∧ p ≤ 15 := by
  unfold neIs at h
  simp at h
  exact ⟨h.1.1, h.1.2, h.2⟩
theorem neIs_wf {a p : Int} (h : neIs a p = true) : wf2 a p := by
  obtain ⟨h1, h2, h3⟩ := neIs_pl h
  constructor <;> simp [Lit.wf, IntKind.min, IntKind.max, IntKind.signed, IntKind.bits] <;> omega
theorem ba_size0 {s : ByteArray} (h : s.size = 0) : s = ⟨#[]⟩ := by
  obtain ⟨⟨l⟩⟩ := s
  cases l with
  | nil => rfl
  | cons a l => simp [ByteArray.size] at h
theorem ba_toList {s : ByteArray} (h : s.size ≠ 0) : ¬ s.toList = [] ∧ s.toList.isEmpty = false := by
  have h1 : ¬ s.toList = [] := by
    rw [ByteArray.toList_eq]
    obtain ⟨⟨l⟩⟩ := s
    intro e
    simp at e
    subst e
    exact h rfl
  exact ⟨h1, by cases e : s.toList with
    | nil => exact absurd e h1
    | cons a l => rfl⟩
theorem ba_ne {s : ByteArray} (h : s.size ≠ 0) : s ≠ ⟨#[]⟩ := fun e => h (by rw [e]; rfl)
set_option maxRecDepth 100000 in
set_option maxHeartbeats 3200000 in
theorem neBeginSend {w : World} {base gn n : Nat} {x : NE} (h : NIn w base gn n x) {a p : Int} (hk : wf2 a p) (s : ByteArray) (hs : s.size ≤ 4611686018427387904) (hn : n < 4611686018427387904) (hc : ∀ i, 0 ≤ x.c i ∧ x.c i ≤ 1099511627776) :
    Calls Try.prog 34 #[.pointer (some ⟨gn, 0, none⟩), .agg #[.int .i64 a, .int .i64 p], .string s, .pointer (some ⟨gn, 3, none⟩)] w fun e w' => ∃ (r : Bool) (x' : NE), e = .returned (.bool r) ∧ NePut x a p s 0 r x' ∧ NIn w' base gn (n + 1) x' ∧ NKeep gn x w w' x' := by
  have HIS := Lib.hid (fun W => neIs_any a p W)
  have hX := atQ_new 73 w w.heap.size #[.int .i64 a, .int .i64 p] rfl
  have hb : Below w.heap.size w (w.alloc (.cells #[.int .i64 a, .int .i64 p] 73)) := (Below.refl _ _).alloc (Nat.le_refl _) _
  have h2 := h.later hb
  have hK2 : NKeep gn x w (w.alloc (.cells #[.int .i64 a, .int .i64 p] 73)) x := nKeep_below hb
  go_enter Try.func34, Try.ntmps34
  go_upto_region 1 with fail
  generalize (w.alloc (.cells #[.int .i64 a, .int .i64 p] 73)) = w2 at hX hb h2 hK2 ⊢
  generalize hg0 : w.heap.size = g0 at hX hb ⊢
  clear hg0 h hb
  obtain ⟨_, _⟩ := hX.cells2
  go_wp2_with fail
  refine (HIS.out _).mono ?_
  rintro e w3 ⟨rfl, hk3⟩
  have hJ := h2.later hk3
  have hX3 := hX.later hk3
  have hKJ := hK2.trans (nKeep_below hk3)
  obtain ⟨_, _⟩ := hX3.cells2
  clear h2 hX hK2 hk3 HIS
  cases hi : neIs a p with
  | false =>
    obtain ⟨_, _, _, _, hc4, _, _, _, _⟩ := hJ.cells
    have hfz : w3.frozen? ⟨gn, 4, none⟩ = false := AtQ.free hJ.at9 4
    have hwr : IntKind.i64.wrap (x.c 1 + 1) = x.c 1 + 1 := IntWalk.i64_in _ ⟨by have := hc 1; omega, by have := hc 1; omega⟩
    have hM := hJ.more 1 (by omega)
    go_wp2_with fail
    go_ret
    exact ⟨_, _, rfl, .no (by simp [neOk, hi]), hM.1.mono (by omega), hKJ.trans hM.2⟩
  | true =>
    by_cases h0 : s.size = 0
    · obtain rfl := ba_size0 h0
      obtain ⟨_, _, _, _, hc4, _, _, _, _⟩ := hJ.cells
      have hfz : w3.frozen? ⟨gn, 4, none⟩ = false := AtQ.free hJ.at9 4
      have hwr : IntKind.i64.wrap (x.c 1 + 1) = x.c 1 + 1 := IntWalk.i64_in _ ⟨by have := hc 1; omega, by have := hc 1; omega⟩
      have hM := hJ.more 1 (by omega)
      go_wp2_with fail
      go_ret
      exact ⟨_, _, rfl, .no (by simp [neOk, hi, h0]), hM.1.mono (by omega), hKJ.trans hM.2⟩
    · have hne := ba_ne h0
      obtain ⟨hne3, hne4⟩ := ba_toList h0
      by_cases h15 : s.size ≤ 1500
      · have hle : decide (1500 < s.size) = false := decide_eq_false (by omega)
        have hle2 : decide ((1500 : Int) < (s.size : Int)) = false := decide_eq_false (by omega)
        have HRM := Lib.hid (neRoom_any hJ hk s hs)
        go_wp2_with fail
        refine HRM.out.mono ?_
        rintro e w4 ⟨rfl, hk4⟩
        have hJ4 := hJ.later hk4
        have hX4 := hX3.later hk4
        have hKJ4 := hKJ.trans (nKeep_below hk4)
        obtain ⟨_, _⟩ := hX4.cells2
        clear hJ hX3 hKJ hk4 HRM
        cases hr : neRoom x a p s with
        | false =>
          have hJ := hJ4
          have hKJ := hKJ4
          obtain ⟨_, _, _, _, hc4, _, _, _, _⟩ := hJ.cells
          have hfz : w4.frozen? ⟨gn, 4, none⟩ = false := AtQ.free hJ.at9 4
          have hwr : IntKind.i64.wrap (x.c 1 + 1) = x.c 1 + 1 := IntWalk.i64_in _ ⟨by have := hc 1; omega, by have := hc 1; omega⟩
          have hM := hJ.more 1 (by omega)
          go_wp2_with fail
          go_ret
          exact ⟨_, _, rfl, .no (by simp [neOk, hr]), hM.1.mono (by omega), hKJ.trans hM.2⟩
        | true =>
          have hl : (x.G a p).length < 1024 := by
            unfold neRoom at hr
            simp at hr
            have := am_hi 1 x.m 1024
            omega
          have HAD := Lib.hid (neAdd_any hJ4 hk s h15 hl (neIs_pl hi) (by unfold maxLen; omega))
          go_wp2_with fail
          refine HAD.out.mono ?_
          rintro e w5 ⟨rfl, v', mp', hI5, hK5⟩
          obtain ⟨_, _, _, c3, c4, c5, c6, c7, c8⟩ := hI5.cells
          have hfz : w5.frozen? ⟨gn, 3, none⟩ = false := AtQ.free hI5.at9 3
          have hcq : (({ x with mp := mp' } : NE).set a p v' (x.G a p ++ [s])).c 0 = x.c 0 := rfl
          have hwr : IntKind.i64.wrap (x.c 0 + 1) = x.c 0 + 1 := IntWalk.i64_in _ ⟨by have := hc 0; omega, by have := hc 0; omega⟩
          have hM := hI5.more 0 (by omega)
          rw [hcq] at c3 hM
          clear HAD
          go_wp2_with fail
          go_ret
          exact ⟨_, _, rfl, .yes (by simp [neOk, hi, h0, h15, hr]) v' mp', hM.1, (hKJ4.trans hK5).trans hM.2⟩
      · have hle : decide (1500 < s.size) = true := decide_eq_true (by omega)
        have hle2 : decide ((1500 : Int) < (s.size : Int)) = true := decide_eq_true (by omega)
        obtain ⟨_, _, _, _, hc4, _, _, _, _⟩ := hJ.cells
        have hfz : w3.frozen? ⟨gn, 4, none⟩ = false := AtQ.free hJ.at9 4
        have hwr : IntKind.i64.wrap (x.c 1 + 1) = x.c 1 + 1 := IntWalk.i64_in _ ⟨by have := hc 1; omega, by have := hc 1; omega⟩
        have hM := hJ.more 1 (by omega)
        go_wp2_with fail
        go_ret
        exact ⟨_, _, rfl, .no (by simp [neOk, h15]), hM.1.mono (by omega), hKJ.trans hM.2⟩
theorem neSend_any {w : World} {base gn n : Nat} {x : NE} (h : NIn w base gn n x) {a p : Int} (hk : wf2 a p) (s : ByteArray) (hs : s.size ≤ 4611686018427387904) (hn : n < 4611686018427387904) (hc : ∀ i, 0 ≤ x.c i ∧ x.c i ≤ 1099511627776) :
    Calls Try.prog 14 #[.pointer (some ⟨gn, 0, none⟩), .int .i64 a, .int .i64 p, .string s] w fun e w' => ∃ (r : Bool) (x' : NE), e = .returned (.bool r) ∧ NePut x a p s 0 r x' ∧ NIn w' base gn (n + 1) x' ∧ NKeep gn x w w' x' := by
  have HB := Lib.hid (neBeginSend h hk s hs hn hc)
  clear h
  go_enter Try.func14, Try.ntmps14
  go_wp2_with fail
  refine HB.out.mono ?_
  rintro e w' ⟨r, x', rfl, h1, h2, h3⟩
  go_wp2_with fail
  go_ret
  exact ⟨r, x', rfl, h1, h2, h3⟩
set_option maxRecDepth 100000 in
set_option maxHeartbeats 3200000 in
theorem neBeginForge {w : World} {base gn n : Nat} {x : NE} (h : NIn w base gn n x) {a p : Int} (hk : wf2 a p) (s : ByteArray) (hs : s.size ≤ 4611686018427387904) (hn : n < 4611686018427387904) (hc : ∀ i, 0 ≤ x.c i ∧ x.c i ≤ 1099511627776) :
    Calls Try.prog 34 #[.pointer (some ⟨gn, 0, none⟩), .agg #[.int .i64 a, .int .i64 p], .string s, .pointer (some ⟨gn, 8, none⟩)] w fun e w' => ∃ (r : Bool) (x' : NE), e = .returned (.bool r) ∧ NePut x a p s 5 r x' ∧ NIn w' base gn (n + 1) x' ∧ NKeep gn x w w' x' := by
  have HIS := Lib.hid (fun W => neIs_any a p W)
  have hX := atQ_new 73 w w.heap.size #[.int .i64 a, .int .i64 p] rfl
  have hb : Below w.heap.size w (w.alloc (.cells #[.int .i64 a, .int .i64 p] 73)) := (Below.refl _ _).alloc (Nat.le_refl _) _
  have h2 := h.later hb
  have hK2 : NKeep gn x w (w.alloc (.cells #[.int .i64 a, .int .i64 p] 73)) x := nKeep_below hb
  go_enter Try.func34, Try.ntmps34
  go_upto_region 1 with fail
  generalize (w.alloc (.cells #[.int .i64 a, .int .i64 p] 73)) = w2 at hX hb h2 hK2 ⊢
  generalize hg0 : w.heap.size = g0 at hX hb ⊢
  clear hg0 h hb
  obtain ⟨_, _⟩ := hX.cells2
  go_wp2_with fail
  refine (HIS.out _).mono ?_
  rintro e w3 ⟨rfl, hk3⟩
  have hJ := h2.later hk3
  have hX3 := hX.later hk3
  have hKJ := hK2.trans (nKeep_below hk3)
  obtain ⟨_, _⟩ := hX3.cells2
  clear h2 hX hK2 hk3 HIS
  cases hi : neIs a p with
  | false =>
    obtain ⟨_, _, _, _, hc4, _, _, _, _⟩ := hJ.cells
    have hfz : w3.frozen? ⟨gn, 4, none⟩ = false := AtQ.free hJ.at9 4
    have hwr : IntKind.i64.wrap (x.c 1 + 1) = x.c 1 + 1 := IntWalk.i64_in _ ⟨by have := hc 1; omega, by have := hc 1; omega⟩
    have hM := hJ.more 1 (by omega)
    go_wp2_with fail
    go_ret
    exact ⟨_, _, rfl, .no (by simp [neOk, hi]), hM.1.mono (by omega), hKJ.trans hM.2⟩
  | true =>
    by_cases h0 : s.size = 0
    · obtain rfl := ba_size0 h0
      obtain ⟨_, _, _, _, hc4, _, _, _, _⟩ := hJ.cells
      have hfz : w3.frozen? ⟨gn, 4, none⟩ = false := AtQ.free hJ.at9 4
      have hwr : IntKind.i64.wrap (x.c 1 + 1) = x.c 1 + 1 := IntWalk.i64_in _ ⟨by have := hc 1; omega, by have := hc 1; omega⟩
      have hM := hJ.more 1 (by omega)
      go_wp2_with fail
      go_ret
      exact ⟨_, _, rfl, .no (by simp [neOk, hi, h0]), hM.1.mono (by omega), hKJ.trans hM.2⟩
    · have hne := ba_ne h0
      obtain ⟨hne3, hne4⟩ := ba_toList h0
      by_cases h15 : s.size ≤ 1500
      · have hle : decide (1500 < s.size) = false := decide_eq_false (by omega)
        have hle2 : decide ((1500 : Int) < (s.size : Int)) = false := decide_eq_false (by omega)
        have HRM := Lib.hid (neRoom_any hJ hk s hs)
        go_wp2_with fail
        refine HRM.out.mono ?_
        rintro e w4 ⟨rfl, hk4⟩
        have hJ4 := hJ.later hk4
        have hX4 := hX3.later hk4
        have hKJ4 := hKJ.trans (nKeep_below hk4)
        obtain ⟨_, _⟩ := hX4.cells2
        clear hJ hX3 hKJ hk4 HRM
        cases hr : neRoom x a p s with
        | false =>
          have hJ := hJ4
          have hKJ := hKJ4
          obtain ⟨_, _, _, _, hc4, _, _, _, _⟩ := hJ.cells
          have hfz : w4.frozen? ⟨gn, 4, none⟩ = false := AtQ.free hJ.at9 4
          have hwr : IntKind.i64.wrap (x.c 1 + 1) = x.c 1 + 1 := IntWalk.i64_in _ ⟨by have := hc 1; omega, by have := hc 1; omega⟩
          have hM := hJ.more 1 (by omega)
          go_wp2_with fail
          go_ret
          exact ⟨_, _, rfl, .no (by simp [neOk, hr]), hM.1.mono (by omega), hKJ.trans hM.2⟩
        | true =>
          have hl : (x.G a p).length < 1024 := by
            unfold neRoom at hr
            simp at hr
            have := am_hi 1 x.m 1024
            omega
          have HAD := Lib.hid (neAdd_any hJ4 hk s h15 hl (neIs_pl hi) (by unfold maxLen; omega))
          go_wp2_with fail
          refine HAD.out.mono ?_
          rintro e w5 ⟨rfl, v', mp', hI5, hK5⟩
          obtain ⟨_, _, _, c3, c4, c5, c6, c7, c8⟩ := hI5.cells
          have hfz : w5.frozen? ⟨gn, 8, none⟩ = false := AtQ.free hI5.at9 8
          have hcq : (({ x with mp := mp' } : NE).set a p v' (x.G a p ++ [s])).c 5 = x.c 5 := rfl
          have hwr : IntKind.i64.wrap (x.c 5 + 1) = x.c 5 + 1 := IntWalk.i64_in _ ⟨by have := hc 5; omega, by have := hc 5; omega⟩
          have hM := hI5.more 5 (by omega)
          rw [hcq] at c8 hM
          clear HAD
          go_wp2_with fail
          go_ret
          exact ⟨_, _, rfl, .yes (by simp [neOk, hi, h0, h15, hr]) v' mp', hM.1, (hKJ4.trans hK5).trans hM.2⟩
      · have hle : decide (1500 < s.size) = true := decide_eq_true (by omega)
        have hle2 : decide ((1500 : Int) < (s.size : Int)) = true := decide_eq_true (by omega)
        obtain ⟨_, _, _, _, hc4, _, _, _, _⟩ := hJ.cells
        have hfz : w3.frozen? ⟨gn, 4, none⟩ = false := AtQ.free hJ.at9 4
        have hwr : IntKind.i64.wrap (x.c 1 + 1) = x.c 1 + 1 := IntWalk.i64_in _ ⟨by have := hc 1; omega, by have := hc 1; omega⟩
        have hM := hJ.more 1 (by omega)
        go_wp2_with fail
        go_ret
        exact ⟨_, _, rfl, .no (by simp [neOk, h15]), hM.1.mono (by omega), hKJ.trans hM.2⟩
theorem neForge_any {w : World} {base gn n : Nat} {x : NE} (h : NIn w base gn n x) {a p : Int} (hk : wf2 a p) (s : ByteArray) (hs : s.size ≤ 4611686018427387904) (hn : n < 4611686018427387904) (hc : ∀ i, 0 ≤ x.c i ∧ x.c i ≤ 1099511627776) :
    Calls Try.prog 18 #[.pointer (some ⟨gn, 0, none⟩), .int .i64 a, .int .i64 p, .string s] w fun e w' => ∃ (r : Bool) (x' : NE), e = .returned (.bool r) ∧ NePut x a p s 5 r x' ∧ NIn w' base gn (n + 1) x' ∧ NKeep gn x w w' x' := by
  have HB := Lib.hid (neBeginForge h hk s hs hn hc)
  clear h
  go_enter Try.func18, Try.ntmps18
  go_wp2_with fail
  refine HB.out.mono ?_
  rintro e w' ⟨r, x', rfl, h1, h2, h3⟩
  go_wp2_with fail
  go_ret
  exact ⟨r, x', rfl, h1, h2, h3⟩
end Go.Proofs.Ytbmbomojnljccaa
