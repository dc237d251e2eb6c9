/- split: a Frame in memory; New, Time, First, Count, Have, IsWhole. -/
import Derived.Test.YtgomijhckmcfeaaSpB
namespace Go.Proofs.Ytgomijhckmcfeaa
open Go.RowKit
set_option linter.unusedVariables false
set_option linter.unusedSimpArgs false
/-- How many parts a frame has, as it counts. -/
def spK (n : Int) : Nat := (min (max n 1) 255).toNat
theorem spK_bd (n : Int) : 1 ≤ spK n ∧ spK n ≤ 255 := by unfold spK; omega
theorem spK_int (n : Int) : min (max n 1) 255 = (spK n : Int) := by unfold spK; omega
/-- The part of an Index; how many are there; of how many bytes. -/
def spF (P : List (Option ByteArray)) (x : Int) : Option ByteArray := if 0 ≤ x then (P[x.toNat]?).join else none
def spH (P : List (Option ByteArray)) : Nat := P.countP Option.isSome
def spB (P : List (Option ByteArray)) : Nat := (P.map (fun o => (o.getD ByteArray.empty).size)).sum
def spNo (n : Nat) : List (Option ByteArray) := List.replicate n none
theorem spF_no (n : Nat) (x : Int) : spF (spNo n) x = none := by
  unfold spF spNo
  split
  · rw [List.getElem?_replicate]
    split <;> rfl
  · rfl
theorem spH_no (n : Nat) : spH (spNo n) = 0 := by simp [spH, spNo, List.countP_replicate]
theorem spB_no (n : Nat) : spB (spNo n) = 0 := by
  unfold spB spNo
  rw [List.map_replicate]
  induction n with
  | zero => rfl
  | succ n ih => rw [List.replicate_succ, List.sum_cons, ih]; rfl
theorem spH_le (P : List (Option ByteArray)) : spH P ≤ P.length := List.countP_le_length
theorem spF_set (P : List (Option ByteArray)) (i : Nat) (d : ByteArray) (hi : i < P.length) (x : Int) : spF (P.set i (some d)) x = if x = i then some d else spF P x := by
  unfold spF
  by_cases h0 : 0 ≤ x
  · rw [if_pos h0, if_pos h0, List.getElem?_set]
    by_cases e : i = x.toNat
    · subst e
      rw [if_pos rfl, if_pos hi, if_pos (by omega)]
      rfl
    · rw [if_neg e, if_neg (by omega)]
  · rw [if_neg h0, if_neg h0, if_neg (by omega)]
theorem spH_set (P : List (Option ByteArray)) (i : Nat) (d : ByteArray) (h : P[i]? = some none) : spH (P.set i (some d)) = spH P + 1 := by
  induction P generalizing i with
  | nil => simp at h
  | cons a P ih =>
    cases i with
    | zero =>
      simp at h
      subst h
      simp [spH]
    | succ i =>
      simp at h
      have := ih i h
      simp only [spH, List.set_cons_succ, List.countP_cons] at this ⊢
      omega
theorem spB_set (P : List (Option ByteArray)) (i : Nat) (d : ByteArray) (h : P[i]? = some none) : spB (P.set i (some d)) = spB P + d.size := by
  induction P generalizing i with
  | nil => simp at h
  | cons a P ih =>
    cases i with
    | zero =>
      simp at h
      subst h
      simp [spB]
      omega
    | succ i =>
      simp at h
      have := ih i h
      simp only [spB, List.set_cons_succ, List.map_cons, List.sum_cons] at this ⊢
      omega
/-- A Frame in memory: its five cells, and the map of its parts, if there is one. -/
structure FIn (W : World) (base gf : Nat) (t cnt first : Int) (mp : Option Nat) (P : List (Option ByteArray)) : Prop where
  bs : base ≤ gf
  at5 : AtS 95 W gf #[.int .u32 t, .int .i64 cnt, .int .i64 first, .map mp, .int .i64 (spB P)]
  len : P.length = spK cnt
  mem : (mp = none ∧ P = spNo (spK cnt)) ∨ ∃ b, mp = some b ∧ base ≤ b ∧ MapP W b 255 (spF P) (spH P) ∧ 255 ≤ 255
theorem FIn.apart {W : World} {base gf : Nat} {t cnt first : Int} {mp : Option Nat} {P : List (Option ByteArray)} (h : FIn W base gf t cnt first mp P) : mp ≠ some gf := fun e => by
  rcases h.mem with ⟨h1, _⟩ | ⟨b, h1, _, hm, _⟩
  · rw [h1] at e; cases e
  · rw [h1] at e
    cases e
    obtain ⟨es, cl, hm⟩ := hm.isMap
    have h5 := h.at5
    unfold AtS at h5
    rw [h5] at hm
    cases hm
/-- What stays: all but the Frame's cells, its map, and what is new. -/
structure KeepF (gf : Nat) (mp : Option Nat) (w w' : World) : Prop where
  size : w.heap.size ≤ w'.heap.size
  block : ∀ k, k < w.heap.size → k ≠ gf → mp ≠ some k → w'.heap[k]? = w.heap[k]?
theorem KeepF.refl (gf : Nat) (mp : Option Nat) (w : World) : KeepF gf mp w w := ⟨Nat.le_refl _, fun _ _ _ _ => rfl⟩
theorem keepF_below (gf : Nat) (mp : Option Nat) {w w' : World} (h : Below w.heap.size w w') : KeepF gf mp w w' := ⟨h.size, fun k hk _ _ => h.block k hk⟩
theorem KeepF.trans {gf : Nat} {mp : Option Nat} {a b c : World} (h : KeepF gf mp a b) (k : KeepF gf mp b c) : KeepF gf mp a c :=
  ⟨Nat.le_trans h.size k.size, fun i hi h1 h2 => by rw [k.block i (Nat.lt_of_lt_of_le hi h.size) h1 h2, h.block i hi h1 h2]⟩
theorem FIn.same {W W' : World} {base gf : Nat} {t cnt first : Int} {mp : Option Nat} {P : List (Option ByteArray)} (h : FIn W base gf t cnt first mp P) (h1 : W'.heap[gf]? = W.heap[gf]?) (h2 : ∀ b, mp = some b → W'.heap[b]? = W.heap[b]?) : FIn W' base gf t cnt first mp P := by
  refine ⟨h.bs, by unfold AtS; rw [h1]; exact h.at5, h.len, ?_⟩
  rcases h.mem with hm | ⟨b, hb, hbb, hm, hx⟩
  · exact .inl hm
  · exact .inr ⟨b, hb, hbb, hm.same (h2 b hb), hx⟩
theorem FIn.mlt {W : World} {base gf : Nat} {t cnt first : Int} {mp : Option Nat} {P : List (Option ByteArray)} (h : FIn W base gf t cnt first mp P) : ∀ b, mp = some b → base ≤ b ∧ b < W.heap.size := fun b hb => by
  rcases h.mem with ⟨h1, _⟩ | ⟨b', h1, h2, hm, _⟩
  · rw [h1] at hb; cases hb
  · rw [h1] at hb
    cases hb
    exact ⟨h2, hm.lt⟩
theorem FIn.later {W W' : World} {base gf : Nat} {t cnt first : Int} {mp : Option Nat} {P : List (Option ByteArray)} (h : FIn W base gf t cnt first mp P) (hb : Below W.heap.size W W') : FIn W' base gf t cnt first mp P :=
  h.same (hb.block gf h.at5.lt) (fun b e => hb.block b (h.mlt b e).2)
theorem FIn.drew {W : World} {base gf : Nat} {t cnt first : Int} {mp : Option Nat} {P : List (Option ByteArray)} (h : FIn W base gf t cnt first mp P) : FIn W.drew base gf t cnt first mp P := h.same rfl (fun _ _ => rfl)
/-- A row of another type is kept. -/
theorem KeepF.row {W W' : World} {gf : Nat} {mp : Option Nat} (hk : KeepF gf mp W W') {t cnt first : Int} {base : Nat} {P : List (Option ByteArray)} (h : FIn W base gf t cnt first mp P) {b : Nat} {e : TypeId} {size : Nat} {v : Value} {n : Nat} {xs : List Value} (ho : OwnE W b e size v n xs) (he : e ≠ 95) : OwnE W' b e size v n xs :=
  ho.keep hk.size fun k cs _ hc => hk.block k (lt_of_block hc) (fun e1 => by
    subst e1
    have h5 := h.at5
    unfold AtS at h5
    rw [h5] at hc
    simp only [Option.some.injEq, Obj.cells.injEq] at hc
    exact he hc.2.1.symm) (fun e1 => by
    rcases h.mem with ⟨h1, _⟩ | ⟨b', h1, h2, hm, _⟩
    · rw [h1] at e1; cases e1
    · rw [h1] at e1
      cases e1
      obtain ⟨es, cl, hm⟩ := hm.isMap
      rw [hm] at hc
      cases hc)
theorem spNew_any (t cnt first : Int) (w : World) : Calls Try.prog 51 #[.int .u32 t, .int .i64 cnt, .int .i64 first] w fun e w' => ∃ gf, e = .returned (.pointer (some ⟨gf, 0, none⟩)) ∧ FIn w' w.heap.size gf t cnt first none (spNo (spK cnt)) ∧ Below w.heap.size w w' := by
  have hX := atS_new 95 w w.heap.size #[.int .u32 t, .int .i64 cnt, .int .i64 first, .map none, .int .i64 0] rfl
  have hb : Below w.heap.size w (w.alloc (.cells #[.int .u32 t, .int .i64 cnt, .int .i64 first, .map none, .int .i64 0] 95)) := (Below.refl _ _).alloc (Nat.le_refl _) _
  have HF : Hid (FIn (w.alloc (.cells #[.int .u32 t, .int .i64 cnt, .int .i64 first, .map none, .int .i64 0] 95)) w.heap.size w.heap.size t cnt first none (spNo (spK cnt))) := Lib.hid ⟨Nat.le_refl _, by rw [spB_no]; exact hX, by simp [spNo], .inl ⟨rfl, rfl⟩⟩
  go_enter Try.func51, Try.ntmps51
  go_wp2
  go_ret
  exact ⟨_, rfl, HF.out, hb⟩
theorem spTime_q {w : World} {base gf : Nat} {t cnt first : Int} {mp : Option Nat} {P : List (Option ByteArray)} (h : FIn w base gf t cnt first mp P) : Calls Try.prog 27 #[.pointer (some ⟨gf, 0, none⟩)] w fun e w' => e = .returned (.int .u32 t) ∧ w' = w := by
  obtain ⟨_, _, _, _, _⟩ := h.at5.cells5
  go_enter Try.func27, Try.ntmps27
  go_wp2
  go_ret
  exact ⟨rfl, rfl⟩
theorem spFirst_q {w : World} {base gf : Nat} {t cnt first : Int} {mp : Option Nat} {P : List (Option ByteArray)} (h : FIn w base gf t cnt first mp P) : Calls Try.prog 24 #[.pointer (some ⟨gf, 0, none⟩)] w fun e w' => e = .returned (.int .i64 first) ∧ w' = w := by
  obtain ⟨_, _, _, _, _⟩ := h.at5.cells5
  go_enter Try.func24, Try.ntmps24
  go_wp2
  go_ret
  exact ⟨rfl, rfl⟩
theorem spBytes_q {w : World} {base gf : Nat} {t cnt first : Int} {mp : Option Nat} {P : List (Option ByteArray)} (h : FIn w base gf t cnt first mp P) : Calls Try.prog 46 #[.pointer (some ⟨gf, 0, none⟩)] w fun e w' => e = .returned (.int .i64 (spB P)) ∧ w' = w := by
  obtain ⟨_, _, _, _, _⟩ := h.at5.cells5
  go_enter Try.func46, Try.ntmps46
  go_wp2
  go_ret
  exact ⟨rfl, rfl⟩
theorem spCount_q {w : World} {base gf : Nat} {t cnt first : Int} {mp : Option Nat} {P : List (Option ByteArray)} (h : FIn w base gf t cnt first mp P) : Calls Try.prog 42 #[.pointer (some ⟨gf, 0, none⟩)] w fun e w' => e = .returned (.int .i64 (spK cnt)) ∧ w' = w := by
  obtain ⟨_, _, _, _, _⟩ := h.at5.cells5
  have hA := Lib.hid (spAmong_q 1 cnt 255 w)
  rw [spK_int] at hA
  generalize spK cnt = K at hA ⊢
  go_enter Try.func42, Try.ntmps42
  go_wp2_with fail
  refine hA.out.mono ?_
  rintro e w' ⟨rfl, hq⟩
  subst hq
  go_wp2_with fail
  go_ret
  exact ⟨rfl, rfl⟩
theorem spHave_q {w : World} {base gf : Nat} {t cnt first : Int} {mp : Option Nat} {P : List (Option ByteArray)} (h : FIn w base gf t cnt first mp P) : Calls Try.prog 41 #[.pointer (some ⟨gf, 0, none⟩)] w fun e w' => e = .returned (.int .i64 (spH P)) ∧ w' = w := by
  obtain ⟨_, _, _, _, _⟩ := h.at5.cells5
  rcases h.mem with ⟨rfl, hP⟩ | ⟨b, rfl, _, hm, _⟩
  · have hn := fun ty => Maps.len_nil (P := Try.prog) (w := w) Try.underlying93 ty
    have hz : spH P = 0 := by rw [hP]; exact spH_no _
    rw [hz]
    go_enter Try.func41, Try.ntmps41
    go_wp2
    go_ret
    exact ⟨rfl, rfl⟩
  · have hn := hm.len
    generalize spH P = H at hn ⊢
    go_enter Try.func41, Try.ntmps41
    go_wp2
    go_ret
    exact ⟨rfl, rfl⟩
theorem spWhole_q {w : World} {base gf : Nat} {t cnt first : Int} {mp : Option Nat} {P : List (Option ByteArray)} (h : FIn w base gf t cnt first mp P) : Calls Try.prog 25 #[.pointer (some ⟨gf, 0, none⟩)] w fun e w' => e = .returned (.bool (decide (spH P = spK cnt))) ∧ w' = w := by
  have h1 := Lib.hid (spHave_q h)
  have h2 := Lib.hid (spCount_q h)
  have hd : ∀ a b : Nat, ((a : Int) == (b : Int)) = decide (a = b) := fun a b => by
    by_cases e : a = b
    · subst e; simp
    · simp [e]; omega
  generalize spH P = H at h1 ⊢
  generalize spK cnt = K at h2 ⊢
  clear h
  go_enter Try.func25, Try.ntmps25
  go_wp2_with fail
  refine h1.out.mono ?_
  rintro e w' ⟨rfl, hq⟩
  subst hq
  go_wp2_with fail
  refine h2.out.mono ?_
  rintro e w'' ⟨rfl, hq⟩
  subst hq
  go_wp2_with fail
  go_ret
  exact ⟨by simp [hd], rfl⟩
end Go.Proofs.Ytgomijhckmcfeaa
