/- buffer: frames of one part: what Put and Play make of them. -/
import Derived.Test.YtgomijhckmcfeaaBfJ
namespace Go.Proofs.Ytgomijhckmcfeaa
open Go.RowKit
set_option linter.unusedVariables false
set_option linter.unusedSimpArgs false
/-- A frame of one part, whole, begun at that tick. -/
structure BOne (D : Int → ByteArray) (T0 : Int) (x : BF) : Prop where
  c : x.c = 1
  f : x.f = T0
  P : x.P = [some (D x.t)]
  d : (D x.t).size = 1
theorem spK1 : spK 1 = 1 := by unfold spK; decide
theorem spH_one (d : ByteArray) : spH [some d] = 1 := by simp [spH]
theorem spB_one (d : ByteArray) : spB [some d] = d.size := by simp [spB]
theorem bOne_sums {D : Int → ByteArray} {T0 : Int} {l : List BF} (h : ∀ x ∈ l, BOne D T0 x) : bfParts l = l.length ∧ bfBytes l = l.length := by
  induction l with
  | nil => exact ⟨rfl, rfl⟩
  | cons x l ih =>
    obtain ⟨h1, h2⟩ := ih (fun y hy => h y (List.mem_cons_of_mem _ hy))
    have hx := h x List.mem_cons_self
    rw [bfParts_cons, bfBytes_cons, hx.P, spH_one, spB_one, hx.d, h1, h2]
    simp only [List.length_cons]
    omega
theorem ins_at {l : List BF} {k j : Nat} {x y : BF} (hk : k ≤ l.length) (hj : j ≠ k) (h : (l.take k ++ x :: l.drop k)[j]? = some y) : y ∈ l := by
  have hl : (l.take k).length = k := by rw [List.length_take]; omega
  rcases Nat.lt_or_gt_of_ne hj with e | e
  · rw [List.getElem?_append_left (by omega)] at h
    exact List.mem_of_mem_take (List.mem_of_getElem? h)
  · rw [List.getElem?_append_right (by omega), hl, show j - k = (j - k - 1) + 1 by omega, List.getElem?_cons_succ] at h
    exact List.mem_of_mem_drop (List.mem_of_getElem? h)
theorem with_t {l : List BF} {k : Nat} {x : BF} (h : l[k]? = some x) (m : Option Nat) (P : List (Option ByteArray)) : (l.set k (x.with m P)).map BF.t = l.map BF.t := by
  rw [List.map_set]
  have e : (x.with m P).t = x.t := rfl
  rw [e]
  apply List.ext_getElem?
  intro i
  rw [List.getElem?_set]
  by_cases hik : k = i
  · subst hik
    rw [if_pos rfl, List.getElem?_map, h]
    simp [(List.getElem?_eq_some_iff.1 h).1]
  · rw [if_neg hik]
theorem mem_t {l : List BF} {y : Int} : y ∈ l.map BF.t ↔ ∃ x ∈ l, x.t = y := by simp
theorem bOv_no {D : Int → ByteArray} {T0 F Pk B : Int} {l : List BF} (h : ∀ x ∈ l, BOne D T0 x) (h1 : (l.length : Int) ≤ F) (h2 : (l.length : Int) ≤ Pk) (h3 : (l.length : Int) ≤ B) : bfOv F Pk B l = false := by
  obtain ⟨e1, e2⟩ := bOne_sums h
  unfold bfOv
  rw [e1, e2]
  simp
  omega
/-- Put of a frame of one part. -/
theorem putOne {D : Int → ByteArray} {T0 F Pk B t now kd : Int} {s s' : BS} {l gone l' : List BF} {d : ByteArray} (h : PutEnd F Pk B s l t 0 1 d now kd gone s' l') (hs : s.least ≤ t) (hg : ∀ x ∈ l, BOne D T0 x) (hT : am 0 now 1099511627776 = T0) (hd : D t = d) (hd1 : d.size = 1) (hF : (l.length : Int) + 1 ≤ F) (hPk : (l.length : Int) + 1 ≤ Pk) (hB : (l.length : Int) + 1 ≤ B) :
    gone = [] ∧ s' = s ∧ (∀ x ∈ l', BOne D T0 x) ∧ (∀ y, y ∈ l'.map BF.t ↔ (y ∈ l.map BF.t ∨ y = t)) ∧ ((kd = 3 ∧ t ∈ l.map BF.t ∧ l'.length = l.length) ∨ (kd = 2 ∧ t ∉ l.map BF.t ∧ l'.length = l.length + 1)) := by
  cases h with
  | late h => omega
  | bad h hb => exact absurd ⟨by decide, by decide, by decide⟩ hb
  | put h hg2 k x l1 l2 m P' r j hf hp h2 hj ho hn hup kd hkd =>
    have hall : (∀ y ∈ l2, BOne D T0 y) ∧ (∀ y, y ∈ l2.map BF.t ↔ (y ∈ l.map BF.t ∨ y = t)) ∧ ((r = 3 ∧ t ∈ l.map BF.t ∧ l2.length = l.length) ∨ (r = 2 ∧ t ∉ l.map BF.t ∧ l2.length = l.length + 1)) := by
      subst h2
      have hat := hf.at
      cases hf with
      | old hx ht =>
        have hxm := List.mem_of_getElem? hx
        have hxo := hg x hxm
        have htm : t ∈ l.map BF.t := mem_t.2 ⟨x, hxm, ht⟩
        have hpp : P' = x.P ∧ r = 3 := by
          have hxP := hxo.P
          generalize x.P = P at hp hxP
          subst hxP
          cases hp with
          | bad hb => exact absurd ⟨rfl, by decide, by decide⟩ hb
          | twice k s hi hc hk => exact ⟨rfl, rfl⟩
          | kept k hi hc hk =>
            have : k = 0 := by omega
            subst this
            simp at hk
        obtain ⟨rfl, rfl⟩ := hpp
        refine ⟨fun y hy => ?_, fun y => ?_, .inl ⟨rfl, htm, by rw [List.length_set]⟩⟩
        · rcases mem_set hy with rfl | ⟨hym, _⟩
          · exact ⟨hxo.c, hxo.f, hxo.P, hxo.d⟩
          · exact hg y hym
        · rw [with_t hx]
          constructor
          · exact .inl
          · rintro (h | rfl)
            · exact h
            · exact htm
      | new hk hno ht hc hff hm hP =>
        have hxP : x.P = [none] := by rw [hP]; unfold spNo; rw [spK1]; rfl
        have hpp : P' = [some d] ∧ r = 2 := by
          generalize x.P = P at hp hxP
          subst hxP
          cases hp with
          | bad hb => exact absurd ⟨rfl, by decide, by decide⟩ hb
          | twice k s hi hc hk =>
            have : k = 0 := by omega
            subst this
            simp at hk
          | kept k hi hc hk =>
            have : k = 0 := by omega
            subst this
            exact ⟨rfl, by simp [spH]⟩
        obtain ⟨rfl, rfl⟩ := hpp
        have hnt : t ∉ l.map BF.t := fun e => by
          obtain ⟨y, hy, e2⟩ := mem_t.1 e
          exact hno y hy e2
        refine ⟨fun y hy => ?_, fun y => ?_, .inr ⟨rfl, hnt, ?_⟩⟩
        · rcases mem_set hy with rfl | ⟨hym, j', hjk, hj'⟩
          · refine ⟨hc, by show x.f = T0; rw [hff, hT], ?_, ?_⟩
            · show [some d] = [some (D x.t)]
              rw [ht, hd]
            · show (D x.t).size = 1
              rw [ht, hd, hd1]
          · exact hg y (ins_at hk hjk hj')
        · rw [with_t hat, List.map_append, List.map_cons, List.mem_append, List.mem_cons, ht]
          have e : y ∈ l.map BF.t ↔ (y ∈ (l.take k).map BF.t ∨ y ∈ (l.drop k).map BF.t) := by
            rw [← List.mem_append, ← List.map_append, List.take_append_drop]
          rw [e]
          constructor
          · rintro (h | h | h)
            · exact .inl (.inl h)
            · exact .inr h
            · exact .inl (.inr h)
          · rintro ((h | h) | h)
            · exact .inl h
            · exact .inr (.inr h)
            · exact .inr (.inl h)
        · rw [List.length_set]
          simp only [List.length_append, List.length_take, List.length_cons, List.length_drop]
          omega
    obtain ⟨ha, hb, hc⟩ := hall
    have hlen : (l2.length : Int) ≤ (l.length : Int) + 1 := by rcases hc with ⟨_, _, h⟩ | ⟨_, _, h⟩ <;> omega
    have hov : bfOv F Pk B l2 = false := bOv_no ha (by omega) (by omega) (by omega)
    have hj0 : j = 0 := by
      rcases Nat.eq_zero_or_pos j with h | h
      · exact h
      · have := ho 0 h
        rw [List.drop_zero, hov] at this
        cases this
    subst hj0
    have hk2 : kd = r := by
      rw [hkd]
      show (if t < bfLst s.least [] then 6 else r) = r
      rw [bfLst_nil, if_neg (by omega)]
    rw [hk2]
    refine ⟨rfl, ?_, by simpa using ha, by simpa using hb, by simpa using hc⟩
    obtain ⟨cf, cp, cb, least, pl, dr, ev⟩ := s
    simp [bfLst]
/-- Play: too early. -/
theorem playNone {D : Int → ByteArray} {T0 T : Int} {l : List BF} {k : Nat} (h : PlayEnd T 5 9 l k) (hg : ∀ x ∈ l, BOne D T0 x) (hT : T = T0 + 4) : k = 0 := by
  rcases Nat.eq_zero_or_pos k with h0 | h0
  · exact h0
  · have hlt : 0 < l.length := by have := h.le; omega
    have hx := List.getElem?_eq_getElem hlt
    have hf := (hg _ (List.mem_of_getElem? hx)).f
    rcases h.all 0 _ h0 hx with e | e
    · unfold bfPq at e
      rw [Bool.and_eq_true] at e
      have := of_decide_eq_true e.2
      omega
    · unfold bfDq at e
      rw [Bool.and_eq_true] at e
      have := of_decide_eq_true e.2
      omega
theorem pq_one {D : Int → ByteArray} {T0 T : Int} {x : BF} (h : BOne D T0 x) (hT : T = T0 + 5) : bfPq T 5 x = true ∧ bfDq T 5 9 x = false := by
  have h1 : bfPq T 5 x = true := by
    unfold bfPq
    rw [h.P, h.c, h.f, spH_one, spK1]
    simp
    omega
  exact ⟨h1, by unfold bfDq; rw [h1]; rfl⟩
/-- Play: in time. -/
theorem playAll {D : Int → ByteArray} {T0 T : Int} {l : List BF} {k : Nat} (h : PlayEnd T 5 9 l k) (hg : ∀ x ∈ l, BOne D T0 x) (hT : T = T0 + 5) : k = l.length ∧ (l.take k).filter (bfPq T 5) = l ∧ (l.take k).filter (bfDq T 5 9) = [] := by
  have hk : k = l.length := by
    rcases Nat.lt_or_ge k l.length with hlt | hge
    · have hx := List.getElem?_eq_getElem hlt
      have := (h.stop _ hx).1
      rw [(pq_one (hg _ (List.mem_of_getElem? hx)) hT).1] at this
      cases this
    · have := h.le
      omega
  subst hk
  rw [List.take_length]
  exact ⟨rfl, List.filter_eq_self.2 (fun x hx => (pq_one (hg x hx) hT).1), List.filter_eq_nil_iff.2 (fun x hx => by rw [(pq_one (hg x hx) hT).2]; decide)⟩
theorem bfD_one {D : Int → ByteArray} {T0 : Int} {x : BF} (h : BOne D T0 x) : bfD x = D x.t := by
  unfold bfD spBy
  rw [h.P]
  simp
def bfX : ByteArray := ⟨#[120]⟩
theorem bfEqX (W : World) : (binOp .eql 38 (.agg #[.int .u32 7, .string ⟨#[120]⟩]) (.agg #[.int .u32 7, .string ⟨#[120]⟩])).run Try.prog W = .ok (.bool true) W := by kernel_rfl
set_option maxRecDepth 100000 in
set_option maxHeartbeats 6400000 in
theorem bfAwake_any (w : World) : Calls Try.prog 7 #[] w fun e w' => e = .returned (.bool true) ∧ Below w.heap.size w w' := by
  have HN : Hid (∀ W, Calls Try.prog 8 #[.agg #[.int .i64 2, .int .i64 9, .int .i64 99]] W fun e w' => ∃ gb, e = .returned (.pointer (some ⟨gb, 0, none⟩)) ∧ BIn w' W.heap.size gb ⟨2, 9, 99, 0, 0, 0, 0⟩ (.slice none 0 0) [] ∧ Below W.heap.size W w') := Lib.hid (fun W => bfNew_any 2 9 99 W)
  go_enter Try.func7, Try.ntmps7
  go_wp2_with fail
  refine (HN.out _).mono ?_
  rintro e w1 ⟨gb, rfl, hI1, hk1⟩
  have HP := Lib.hid (bfPut_any hI1 7 0 1 0 bfX (by decide) (by decide) (by decide) (by decide) (by decide) (by decide) (by decide))
  go_wp2_with fail
  refine HP.out.mono ?_
  rintro e w2 ⟨kd, gone, s2, v2, l2, ev, rfl, hPE, hEV, hI2, hK2, hB2⟩
  have hone := putOne (D := fun _ => bfX) (T0 := 0) hPE (by decide) (fun x hx => by simp at hx) (by decide) rfl (by decide) (by decide) (by decide) (by decide)
  obtain ⟨rfl, rfl, hall, hmem, hcase⟩ := hone
  have hcase2 : kd = 2 ∧ l2.length = 1 := by
    rcases hcase with ⟨_, h, _⟩ | ⟨h1, _, h2⟩
    · simp at h
    · exact ⟨h1, h2⟩
  obtain ⟨rfl, hlen⟩ := hcase2
  obtain ⟨x, rfl⟩ : ∃ x, l2 = [x] := by
    match l2, hlen with
    | [x], _ => exact ⟨x, rfl⟩
  have hxt : x.t = 7 := by
    have := (hmem x.t).1 (by simp)
    simpa using this
  obtain ⟨ea, ec, rfl⟩ := hEV.formG
  clear hPE hcase hmem hlen HP hEV
  have hsum := bOne_sums hall
  have hx1 := hall x List.mem_cons_self
  have hN := hk1.size
  have hs2 := hK2.size
  have hal := (Below.refl w2.heap.size w2).alloc (Nat.le_refl _) (.cells #[.int .i64 2, .slice ea ([] : List BF).length ec] 40)
  have hX3 := atS_new 40 w2 w2.heap.size #[.int .i64 2, .slice ea ([] : List BF).length ec] rfl
  have hI3 := hI2.later hal
  have hb3 : Below w.heap.size w (w2.alloc (.cells #[.int .i64 2, .slice ea ([] : List BF).length ec] 40)) := (hk1.trans hB2).alloc (by omega) _
  go_upto_region 5 with fail
  generalize w2.alloc (.cells #[.int .i64 2, .slice ea ([] : List BF).length ec] 40) = w3 at hX3 hI3 hb3 ⊢
  generalize w2.heap.size = gc at hX3 ⊢
  clear hal hI2 hI1 hK2 hB2 hk1 hN hs2
  have HP1 := Lib.hid (bfPlay_any hI3 4 5 9 (by simp) (by rw [hsum.1]; simp) (by rw [hsum.2]; simp) (fun y hy => by have := (hall y hy).f; omega) (by decide) (by decide))
  go_wp2_with fail
  refine HP1.out.mono ?_
  rintro e w4 ⟨k, pv, dv, v4, hPl, rfl, hp4, hd4, hI4, hK4, hB4⟩
  have hk0 := playNone hPl hall (by decide)
  subst hk0
  simp only [List.take_zero, List.filter_nil, List.length_nil, List.drop_zero] at hp4 hd4 hI4 hK4
  have hX4 : AtS 40 w4 gc #[.int .i64 2, .slice ea ([] : List BF).length ec] := by
    have hh := hX3
    unfold AtS at hh ⊢
    rw [hK4.blk hI3 hh (by decide) (by decide) (by decide)]
    exact hh
  have hb4 := hb3.trans hB4
  obtain ⟨pa, pc, rfl⟩ := hp4.formG
  obtain ⟨da, dc, rfl⟩ := hd4.formG
  clear hPl hI3 hK4 hB4 HP1 hX3 hb3 hp4 hd4
  have HP2 := Lib.hid (bfPlay_any hI4 5 5 9 (by simp) (by rw [hsum.1]; simp) (by rw [hsum.2]; simp) (fun y hy => by have := (hall y hy).f; omega) (by decide) (by decide))
  go_wp2_with fail
  refine HP2.out.mono ?_
  rintro e w5 ⟨k, pv, dv, v5, hPl, rfl, hp5, hd5, hI5, hK5, hB5⟩
  obtain ⟨hk1, hf1, hf2⟩ := playAll hPl hall (by decide)
  rw [hf1] at hp5 hI5
  rw [hf2] at hd5 hI5
  subst hk1
  have hX5 : AtS 40 w5 gc #[.int .i64 2, .slice ea ([] : List BF).length ec] := by
    have hh := hX4
    unfold AtS at hh ⊢
    rw [hK5.blk hI4 hh (by decide) (by decide) (by decide)]
    exact hh
  have hb5 := hb4.trans hB5
  have hrow : bfFs [x] = [.int .u32 7, .string bfX] := by
    show [Value.int .u32 x.t, Value.string (bfD x)] = _
    rw [bfD_one hx1, hxt]
  rw [hrow] at hp5
  obtain ⟨ga, off, c5, hpv, hc5, _, _, _, hcl⟩ := hp5.1.cells (by simp)
  subst hpv
  have hc0 := (hcl 0 _ rfl).1
  have hc1 := (hcl 1 _ rfl).1
  rw [Nat.add_zero] at hc0
  obtain ⟨db, dc5, rfl⟩ := hd5.formG
  have hHZ : Hid (Calls Try.prog 13 #[.pointer (some ⟨gb, 3, none⟩)] w5 fun e w' => e = .returned (.int .i64 7) ∧ w' = w5) := Lib.hid (by
    have e1 : bfLst (bfLst 0 []) ([x].take [x].length) = 8 := by
      show x.t + 1 = 8
      omega
    have := bfHor_q hI5 (by show bfLst (bfLst 0 []) ([x].take [x].length) ≤ _; rw [e1]; decide)
    have e2 : (bfLst (bfLst 0 []) ([x].take [x].length)) - 1 = 7 := by rw [e1]; decide
    exact e2 ▸ this)
  have hEQ := bfEqX w5
  obtain ⟨_, _⟩ := hX5.cells2
  clear hPl hI4 hK5 hB5 HP2 hX4 hb4 hp5 hd5 hcl hI5 hf1 hf2
  unfold bfX at hc1
  go_wp2_with fail
  refine hHZ.out.mono ?_
  rintro e w6 ⟨rfl, hq⟩
  subst hq
  go_wp2_with fail
  go_ret
  exact ⟨by simp, hb5⟩
end Go.Proofs.Ytgomijhckmcfeaa
