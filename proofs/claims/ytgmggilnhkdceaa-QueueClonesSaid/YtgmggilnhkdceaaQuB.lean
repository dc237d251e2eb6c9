/- queue: what is in memory; New, Len, Bytes, Room, Front. -/
import Derived.Test.YtgmggilnhkdceaaQuA
namespace Go.Proofs.Ytgmggilnhkdceaa
open Go.RowKit
set_option linter.unusedVariables false
set_option linter.unusedSimpArgs false
def quV (l : List ByteArray) : List Value := l.map Value.string
def quTot (l : List ByteArray) : Int := (l.map fun s => (s.size : Int)).sum
theorem quTot_nil : quTot [] = 0 := by simp [quTot]
theorem quTot_cons (s : ByteArray) (l : List ByteArray) : quTot (s :: l) = s.size + quTot l := by simp [quTot]
theorem quTot_app (l r : List ByteArray) : quTot (l ++ r) = quTot l + quTot r := by
  induction l with
  | nil => simp [quTot]
  | cons s l ih => rw [List.cons_append, quTot_cons, quTot_cons, ih]; omega
theorem quTot_nn (l : List ByteArray) : 0 ≤ quTot l := by
  induction l with
  | nil => simp [quTot]
  | cons s l ih => rw [quTot_cons]; omega
theorem quV_len (l : List ByteArray) : (quV l).length = l.length := by simp [quV]
theorem quV_app (l r : List ByteArray) : quV (l ++ r) = quV l ++ quV r := by simp [quV]
theorem quV_cons (s : ByteArray) (l : List ByteArray) : quV (s :: l) = .string s :: quV l := rfl
/-- A bound as it counts. -/
def quC (n : Int) : Int := min (max n 1) 1073741824
theorem quC_bd (n : Int) : 1 ≤ quC n ∧ quC n ≤ 1073741824 := by unfold quC; omega
/-- What waits, in memory: the struct's four cells, and the texts. -/
structure QIn (W : World) (base gq : Nat) (m b : Int) (v : Value) (l : List ByteArray) : Prop where
  bs : base ≤ gq
  at4 : At4 119 W gq (.int .i64 m) (.int .i64 b) v (.int .i64 (quTot l))
  own : OwnE W base 71 1 v l.length (quV l)
  len : (l.length : Int) ≤ quC m
  tot : quTot l ≤ quC b
theorem quTypes : (119 : TypeId) ≠ 71 := by decide
theorem QIn.apart {W : World} {base gq : Nat} {m b : Int} {v : Value} {l : List ByteArray} (h : QIn W base gq m b v l) : v.ownBlock ≠ some gq := fun e => by
  obtain ⟨cs, hcs⟩ := h.own.2 gq e
  have h4 := h.at4
  unfold At4 at h4
  rw [h4] at hcs
  simp only [Option.some.injEq, Obj.cells.injEq] at hcs
  exact quTypes hcs.2.1
theorem QIn.later {W W' : World} {base gq : Nat} {m b : Int} {v : Value} {l : List ByteArray} (h : QIn W base gq m b v l) (hb : Below W.heap.size W W') : QIn W' base gq m b v l :=
  ⟨h.bs, h.at4.later hb, h.own.later hb, h.len, h.tot⟩
theorem QIn.base {W : World} {base c gq : Nat} {m b : Int} {v : Value} {l : List ByteArray} (h : QIn W base gq m b v l) (hc : c ≤ base) : QIn W c gq m b v l :=
  ⟨Nat.le_trans hc h.bs, h.at4, h.own.base hc, h.len, h.tot⟩
/-- Blocks of other types than a queue's, and its texts', are kept. -/
structure KeptQ (w w' : World) : Prop where
  size : w.heap.size ≤ w'.heap.size
  block : ∀ (k : Nat) (cs : Array Value) (T : TypeId) (fz : Nat × Nat), w.heap[k]? = some (.cells cs T fz) → T ≠ 119 → T ≠ 71 → w'.heap[k]? = w.heap[k]?
theorem KeptQ.refl (w : World) : KeptQ w w := ⟨Nat.le_refl _, fun _ _ _ _ _ _ _ => rfl⟩
theorem KeptQ.trans {a b c : World} (h : KeptQ a b) (k : KeptQ b c) : KeptQ a c :=
  ⟨Nat.le_trans h.size k.size, fun i cs T fz hi h1 h2 => by
    have e := h.block i cs T fz hi h1 h2
    rw [k.block i cs T fz (by rw [e]; exact hi) h1 h2, e]⟩
theorem keptQ_below {w w' : World} (h : Below w.heap.size w w') : KeptQ w w' := ⟨h.size, fun k cs T fz hk _ _ => h.block k (lt_of_block hk)⟩
theorem keptQ_only {w w' : World} {g : Nat} {c0 c1 c2 c3 : Value} (h4 : At4 119 w g c0 c1 c2 c3) (h : Only g w w') : KeptQ w w' :=
  ⟨by rw [h.size]; exact Nat.le_refl _, fun k cs T fz hk h1 _ => h.block k (fun e => by
    subst e
    unfold At4 at h4
    rw [h4] at hk
    simp only [Option.some.injEq, Obj.cells.injEq] at hk
    exact h1 hk.2.1.symm)⟩
theorem keptQ_row {w w' : World} {row : Option Nat} (ht : ∀ k, row = some k → ∃ cs, w.heap[k]? = some (.cells cs 71 (0, 0))) (h : w.grownBy w' row) : KeptQ w w' :=
  ⟨h.size, fun k cs T fz hk _ h2 => h.block k (lt_of_block hk) (fun e => by
    obtain ⟨cs', hcs⟩ := ht k e.symm
    rw [hk] at hcs
    simp only [Option.some.injEq, Obj.cells.injEq] at hcs
    exact h2 hcs.2.1)⟩
theorem OwnE.keptQ {W W' : World} {b : Nat} {e : TypeId} {size : Nat} {v : Value} {n : Nat} {xs : List Value} (h : OwnE W b e size v n xs) (hk : KeptQ W W') (h1 : e ≠ 119) (h2 : e ≠ 71) : OwnE W' b e size v n xs :=
  h.keep hk.size fun k cs _ hc => hk.block k cs e (0, 0) hc h1 h2
/-- The first text, in memory. -/
theorem QIn.head {W : World} {base gq : Nat} {m b : Int} {v : Value} {s : ByteArray} {l : List ByteArray} (h : QIn W base gq m b v (s :: l)) : ∃ g off cap, v = .slice (some ⟨g, off, none⟩) (l.length + 1) cap ∧ l.length + 1 ≤ cap ∧ W.cell? ⟨g, off, none⟩ = some (.string s) ∧ W.frozen? ⟨g, off, none⟩ = false := by
  obtain ⟨g, off, cap, e, h1, _, _, _, hc⟩ := h.own.1.cells (by simp)
  obtain ⟨h2, h3⟩ := hc 0 (.string s) rfl
  exact ⟨g, off, cap, e, h1, by simpa using h2, by simpa using h3⟩
theorem QIn.none {W : World} {base gq : Nat} {m b : Int} {v : Value} (h : QIn W base gq m b v []) : ∃ a cap, v = .slice a 0 cap := by
  rcases h.own.1.2 with ⟨rfl, _⟩ | ⟨g, off, cap, rfl, _⟩
  · exact ⟨_, _, rfl⟩
  · exact ⟨_, _, rfl⟩
theorem QIn.form {W : World} {base gq : Nat} {m b : Int} {v : Value} {l : List ByteArray} (h : QIn W base gq m b v l) : ∃ a cap, v = .slice a l.length cap := by
  rcases h.own.1.2 with ⟨rfl, e⟩ | ⟨g, off, cap, rfl, _⟩
  · rw [e]; exact ⟨_, _, rfl⟩
  · exact ⟨_, _, rfl⟩
theorem quNew_any (m b : Int) (w : World) : Calls Try.prog 34 #[.int .i64 m, .int .i64 b] w fun e w' => e = .returned (.pointer (some ⟨w.heap.size, 0, none⟩)) ∧ QIn w' w.heap.size w.heap.size m b (.slice none 0 0) [] ∧ Below w.heap.size w w' := by
  go_enter Try.func34, Try.ntmps34
  go_wp2_with fail
  go_ret
  have := quC_bd m
  have := quC_bd b
  exact ⟨by first | rfl | simp, ⟨Nat.le_refl _, at4_new _ _ _ _ _ _ _ rfl, ownE_nil _ _ _ _, by simp; omega, by simp [quTot]; omega⟩, (Below.refl _ _).alloc (Nat.le_refl _) _⟩
theorem quLen_q {w : World} {base gq : Nat} {m b : Int} {v : Value} {l : List ByteArray} (h : QIn w base gq m b v l) : Calls Try.prog 38 #[.pointer (some ⟨gq, 0, none⟩)] w fun e w' => e = .returned (.int .i64 (l.length : Int)) ∧ w' = w := by
  obtain ⟨a, cap, rfl⟩ := h.form
  obtain ⟨_, _, _, _⟩ := h.at4.cells
  clear h
  go_enter Try.func38, Try.ntmps38
  go_wp2
  go_ret
  exact ⟨rfl, rfl⟩
theorem quBytes_q {w : World} {base gq : Nat} {m b : Int} {v : Value} {l : List ByteArray} (h : QIn w base gq m b v l) : Calls Try.prog 39 #[.pointer (some ⟨gq, 0, none⟩)] w fun e w' => e = .returned (.int .i64 (quTot l)) ∧ w' = w := by
  obtain ⟨_, _, _, _⟩ := h.at4.cells
  clear h
  go_enter Try.func39, Try.ntmps39
  go_wp2
  go_ret
  exact ⟨rfl, rfl⟩
theorem quFront0_q {w : World} {base gq : Nat} {m b : Int} {v : Value} (h : QIn w base gq m b v []) : Calls Try.prog 44 #[.pointer (some ⟨gq, 0, none⟩)] w fun e w' => e = .returned (.tuple #[.string ByteArray.empty, .bool false]) ∧ w' = w := by
  obtain ⟨a, cap, rfl⟩ := h.none
  obtain ⟨_, _, _, _⟩ := h.at4.cells
  clear h
  go_enter Try.func44, Try.ntmps44
  go_wp2
  go_ret2
  exact ⟨rfl, rfl⟩
theorem quFront1_q {w : World} {base gq : Nat} {m b : Int} {v : Value} {s : ByteArray} {l : List ByteArray} (h : QIn w base gq m b v (s :: l)) : Calls Try.prog 44 #[.pointer (some ⟨gq, 0, none⟩)] w fun e w' => e = .returned (.tuple #[.string s, .bool true]) ∧ w' = w := by
  obtain ⟨g, off, cap, rfl, h1, h2, _⟩ := h.head
  obtain ⟨_, _, _, _⟩ := h.at4.cells
  clear h
  go_enter Try.func44, Try.ntmps44
  go_wp2
  go_ret2
  exact ⟨rfl, rfl⟩
theorem quRoom_q {w : World} {base gq : Nat} {m b : Int} {v : Value} {l : List ByteArray} (h : QIn w base gq m b v l) : Calls Try.prog 67 #[.pointer (some ⟨gq, 0, none⟩)] w fun e w' => e = .returned (.tuple #[.int .i64 (quC m - l.length), .int .i64 (quC b - quTot l)]) ∧ Below w.heap.size w w' := by
  obtain ⟨a, cap, rfl⟩ := h.form
  have hc := h.at4.cells
  have h1 := h.len
  have h2 := h.tot
  have h3 := quTot_nn l
  have h4 := quC_bd m
  have h5 := quC_bd b
  have HM : Hid (∀ W, Calls Try.prog 82 #[.int .i64 m] W fun e w' => e = .returned (.int .i64 (quC m)) ∧ w' = W) := Lib.hid (fun W => quCounted_q m W)
  have HB : Hid (∀ W, Calls Try.prog 82 #[.int .i64 b] W fun e w' => e = .returned (.int .i64 (quC b)) ∧ w' = W) := Lib.hid (fun W => quCounted_q b W)
  generalize quC m = cm at *
  generalize quC b = cb at *
  generalize quTot l = tt at *
  generalize l.length = n at *
  have hw1 : IntKind.i64.wrap (cm - n) = cm - n := IntWalk.i64_in _ ⟨by omega, by omega⟩
  have hw2 : IntKind.i64.wrap (cb - tt) = cb - tt := IntWalk.i64_in _ ⟨by omega, by omega⟩
  obtain ⟨_, _, _, _⟩ := hc
  clear h h1 h2 h3 h4 h5
  go_enter Try.func67, Try.ntmps67
  go_wp2_with fail
  go_region_held3 (fun W => W.cell? ⟨gq, 0, none⟩ = some (.int .i64 m) ∧ W.cell? ⟨gq, 1, none⟩ = some (.int .i64 b) ∧ W.cell? ⟨gq, 2, none⟩ = some (.slice a n cap) ∧ W.cell? ⟨gq, 3, none⟩ = some (.int .i64 tt)) (first | (go_keep; done) | (go_split_ands <;> assumption)) (first | (go_at_call_of 82 (Value.int .i64 m); refine (HM.out _).mono ?_; rintro e w' ⟨rfl, rfl⟩) | (go_at_call 82; refine (HB.out _).mono ?_; rintro e w' ⟨rfl, rfl⟩))
  all_goals
    go_wp2_with fail
    go_ret2
    exact ⟨rfl, (Below.refl _ _).drew⟩
end Go.Proofs.Ytgmggilnhkdceaa
