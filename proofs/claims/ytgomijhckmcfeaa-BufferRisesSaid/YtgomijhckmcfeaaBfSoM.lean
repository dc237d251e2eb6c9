/- buffer: BufferSorts: what holds in a round. -/
import Derived.Test.YtgomijhckmcfeaaBfN
import Derived.Test.YtgomijhckmcfeaaMpA
namespace Go.Proofs.Ytgomijhckmcfeaa
open Go.RowKit Go.Maps
set_option linter.unusedVariables false
set_option linter.unusedSimpArgs false
theorem muKey : Keyed Try.prog 30 := int_keyed Try.underlying30
theorem mu_key {x : Int} (h : (Lit.int .u32 x).wf = true) : keyOf Try.prog 30 (.int .u32 x) = some (.int .u32 x) := keyOf_int_mk Try.underlying30 h
/-- In block b there is such a map, of c parts. -/
def MapU (W : World) (b n : Nat) (f : Int → Option Bool) (c : Nat) : Prop := ∃ D : DataW Unit, W.ownsMap Try.prog 30 (plainElem Try.prog 4) b n D ∧ Tidy D ∧ (∀ x : Int, (Lit.int .u32 x).wf = true → Maps.has D (.int .u32 x) = (f x).isSome) ∧ (∀ x : Int, (Lit.int .u32 x).wf = true → D.atKey (.int .u32 x) (.lit (.bool false)) = .lit (.bool ((f x).getD false))) ∧ Maps.size D = c
theorem zeroU (w : World) : (zeroValue 4).run Try.prog w = .ok (.bool false) w := by kernel_rfl
theorem mapU_new (W : World) : MapU (W.alloc (.map #[] 0)) W.heap.size 0 (fun _ => none) 0 :=
  ⟨_, World.ownsMap_made W _ _ _, tidy_empty, fun x _ => rfl, fun x _ => rfl, rfl⟩
theorem MapU.isMap {W : World} {b n c : Nat} {f : Int → Option Bool} (h : MapU W b n f c) : ∃ es cl, W.heap[b]? = some (.map es cl) := by
  obtain ⟨D, ⟨es, c, h1, _⟩, h2⟩ := h
  exact ⟨es, c, h1⟩
theorem MapU.lt {W : World} {b n c : Nat} {f : Int → Option Bool} (h : MapU W b n f c) : b < W.heap.size := by
  obtain ⟨es, cl, hm⟩ := h.isMap
  exact (Array.getElem?_eq_some_iff.1 hm).1
theorem MapU.same {W W' : World} {b n c : Nat} {f : Int → Option Bool} (h : MapU W b n f c) (hb : W'.heap[b]? = W.heap[b]?) : MapU W' b n f c := by
  obtain ⟨D, ⟨es, c, h1, h3⟩, h2⟩ := h
  exact ⟨D, ⟨es, c, hb.trans h1, h3⟩, h2⟩
theorem MapU.mono {W : World} {b n n' c : Nat} {f : Int → Option Bool} (h : MapU W b n f c) (hn : n ≤ n') : MapU W b n' f c := by
  obtain ⟨D, h1, h2⟩ := h
  exact ⟨D, h1.mono hn, h2⟩
theorem MapU.ext {W : World} {b n c : Nat} {f f' : Int → Option Bool} (h : MapU W b n f c) (he : ∀ x, (Lit.int .u32 x).wf = true → f' x = f x) : MapU W b n f' c := by
  obtain ⟨D, h1, h2, h3, h4, h5⟩ := h
  exact ⟨D, h1, h2, fun x hx => by rw [he x hx]; exact h3 x hx, fun x hx => by rw [he x hx]; exact h4 x hx, h5⟩
theorem MapU.len {W : World} {b n c : Nat} {f : Int → Option Bool} (h : MapU W b n f c) (ty : TypeId) : (Builtin.len_ #[29] ty #[.map (some b)]).run Try.prog W = .ok (.int .i64 c) W := by
  obtain ⟨D, h1, _, _, _, h5⟩ := h
  rw [← h5]
  exact h1.len Try.underlying29 ty
theorem MapU.eq {W : World} {b n c : Nat} {f : Int → Option Bool} (h : MapU W b n f c) {x : Int} (hx : (Lit.int .u32 x).wf = true) : (Instr.lookup 29 (.map (some b)) (.int .u32 x) false).run Try.prog W = .ok (.bool ((f x).getD false)) W := by
  obtain ⟨D, h1, _, _, h3, _⟩ := h
  obtain ⟨v, ps, hrun, hv⟩ := h1.lookup muKey Try.underlying29 (zeroU W) (plainElem_bool Try.underlying4 false) (mu_key hx)
  obtain ⟨s, rfl, e⟩ := plainElem_bool_inv' Try.underlying4 hv
  rw [h3 x hx] at e
  simp only [Prod.mk.injEq, DataW.lit.injEq, Lit.bool.injEq] at e
  obtain ⟨rfl, _⟩ := e
  exact hrun
theorem MapU.okEq {W : World} {b n c : Nat} {f : Int → Option Bool} (h : MapU W b n f c) {x : Int} (hx : (Lit.int .u32 x).wf = true) : (Instr.lookup 29 (.map (some b)) (.int .u32 x) true).run Try.prog W = .ok (.tuple #[.bool ((f x).getD false), .bool (f x).isSome]) W := by
  obtain ⟨D, h1, _, h2, h3, _⟩ := h
  obtain ⟨v, ps, hrun, hv⟩ := h1.look_ok muKey Try.underlying29 (zeroU W) (plainElem_bool Try.underlying4 false) (mu_key hx)
  rw [h2 x hx] at hrun
  obtain ⟨s, rfl, e⟩ := plainElem_bool_inv' Try.underlying4 hv
  rw [h3 x hx] at e
  simp only [Prod.mk.injEq, DataW.lit.injEq, Lit.bool.injEq] at e
  obtain ⟨rfl, _⟩ := e
  exact hrun
/-- 'm[k] = s'. -/
theorem wpList_putU (w : World) {ops : Array Oper} {rest : List Oper} {o : Oper} {a : Act} {Q : Exit → Act → World → Prop}
    (hg : o.guard = none) (m x v : Operand) (hop : o.op = Op.mapUpdate 29 m x v) (b n c : Nat) (f : Int → Option Bool) (hm : a.eval m = .map (some b)) (h : MapU w b n f c) (hn : n < maxLen)
    (k : Int) (s : Bool) (hx : a.eval x = .int .u32 k) (hk : (Lit.int .u32 k).wf = true) (hv : a.eval v = .bool s)
    (hK : ∀ w', MapU w' b (n + 1) (fun y => if y = k then some s else f y) (if (f k).isSome then c else c + 1) → w.grownBy w' (some b) → wpList Try.prog ops Q rest (a.put o.dst undef) w') : wpList Try.prog ops Q (o :: rest) a w := by
  obtain ⟨D, h1, h2, h3, h4, h5⟩ := h
  refine wpList_mapUpdate_own w hg m x v _ hop 30 4 muKey Try.underlying29 _ b n D hm h1 hn _ _ _ hx hv (mu_key hk) (.lit (.bool s)) [] (plainElem_bool Try.underlying4 s) ?_
  intro w1 hown hgrow
  have hD : IsMap D := h2.isMap
  refine hK w1 ⟨_, hown, Tidy.put (k := Lit.int .u32 k) h2 trivial _, fun y hy => ?_, fun y hy => ?_, ?_⟩ hgrow
  · by_cases e : y = k
    · subst e
      rw [has_put_same hD (k := Lit.int .u32 y) trivial]
      simp
    · rw [has_put_other (show Lit.int .u32 y ≠ Lit.int .u32 k from fun h => e (by injection h)), h3 y hy]
      simp [e]
  · by_cases e : y = k
    · subst e
      rw [atKey_put_same hD (k := Lit.int .u32 y) trivial]
      simp
    · rw [atKey_put_other (show Lit.int .u32 y ≠ Lit.int .u32 k from fun h => e (by injection h)), h4 y hy]
      simp [e]
  · rw [size_put h2, h3 k hk, h5]
def soD (t : Int) : ByteArray := strOfNums [IntKind.u8.wrap t]
theorem soD_size (t : Int) : (soD t).size = 1 := by unfold soD; rw [strOfNums_size]; rfl
theorem so_conv (W : World) (b : Nat) (a : Int) (h : W.heap[b]? = some (.cells #[.int .u8 a] 5 (0, 0))) : Sem.run Try.prog (convert 64 9 (.slice (some ⟨b, 0, none⟩) 1 1)) W = Result.ok (.string (strOfNums [a])) W := by
  refine run_convert_bytes_arg (P := Try.prog) _ 64 5 Try.underlying64 Try.underlying5 b 0 1 1 [a] rfl (fun i hi => ?_) 9 Try.underlying9
  match i, hi with
  | 0, _ => have := cell_of_row W b 0 _ _ (0, 0) h; simpa using this
def soS : BS := ⟨100, 100, 1000, 0, 0, 0, 0⟩
/-- What holds between: a Buffer of frames of one part; a map apart of it. -/
structure SoIn (w0 W : World) (g B gb gm : Nat) (T0 : Int) (n c : Nat) (v : Value) (l : List BF) (f : Int → Option Bool) : Prop where
  bin : BIn W B gb soS v l
  map : MapU W gm n f c
  out : ¬ Foot gb v l gm
  bel : Below g w0 W
  gB : g ≤ B
  gg : g ≤ gm
  one : ∀ x ∈ l, BOne soD T0 x
section
variable {w0 W W' : World} {g B gb gm n c : Nat} {T0 : Int} {v : Value} {l : List BF} {f : Int → Option Bool}
theorem SoIn.lt (h : SoIn w0 W g B gb gm T0 n c v l f) : g < W.heap.size := Nat.lt_of_le_of_lt h.gg h.map.lt
theorem SoIn.later (h : SoIn w0 W g B gb gm T0 n c v l f) (hb : Below W.heap.size W W') : SoIn w0 W' g B gb gm T0 n c v l f :=
  ⟨h.bin.later hb, h.map.same (hb.block _ h.map.lt), h.out, h.bel.trans (hb.mono (Nat.le_of_lt h.lt)), h.gB, h.gg, h.one⟩
theorem SoIn.only (h : SoIn w0 W g B gb gm T0 n c v l f) {k : Nat} {cs : Array Value} {T : TypeId} (hc : W.heap[k]? = some (.cells cs T (0, 0))) (ho : Only k W W') (hk : g ≤ k) (h1 : T ≠ 51) (h2 : T ≠ 66) (h3 : T ≠ 95) : SoIn w0 W' g B gb gm T0 n c v l f :=
  ⟨h.bin.other hc ho h1 h2 h3, h.map.same (ho.block _ (fun e => by
    obtain ⟨es, cl, hm⟩ := h.map.isMap
    rw [e] at hm
    exact blk_map hc hm rfl)), h.out, h.bel.trans (ho.below hk), h.gB, h.gg, h.one⟩
theorem SoIn.put (h : SoIn w0 W g B gb gm T0 n c v l f) {n' c' : Nat} {f' : Int → Option Bool} (hm : MapU W' gm n' f' c') (hg : W.grownBy W' (some gm)) : SoIn w0 W' g B gb gm T0 n' c' v l f' := by
  refine ⟨h.bin.keep hg.size (fun k hf => hg.block k (h.bin.foot_lt hf) (fun e => ?_)), hm, h.out, ?_, h.gB, h.gg, h.one⟩
  · cases e
    exact h.out hf
  · exact h.bel.grown hg (Nat.le_of_lt h.lt) (fun q hq => by cases hq; exact h.gg)
/-- What a time that comes makes of them. -/
structure SoNext (l l' : List BF) (x kd : Int) : Prop where
  mem : ∀ y, y ∈ l'.map BF.t ↔ (y ∈ l.map BF.t ∨ y = x)
  kd : (kd = 3 ∧ x ∈ l.map BF.t ∧ l'.length = l.length) ∨ (kd = 2 ∧ x ∉ l.map BF.t ∧ l'.length = l.length + 1)
theorem soPut (h : SoIn w0 W g B gb gm T0 n c v l f) (x now : Int) (x0 : 0 ≤ x) (x1 : x ≤ 4294967295) (hl : l.length ≤ 40) (hT : am 0 now 1099511627776 = T0) :
    Calls Try.prog 10 #[.pointer (some ⟨gb, 0, none⟩), .int .u32 x, .agg #[.int .i64 0, .int .i64 1], .string (soD x), .int .i64 now] W fun e w' => ∃ (kd : Int) (ea : Option Addr) (ec : Nat) (v' : Value) (l' : List BF), e = .returned (.agg #[.int .i64 kd, .slice ea 0 ec]) ∧ SoNext l l' x kd ∧ SoIn w0 w' g B gb gm T0 n c v' l' f ∧ BKeep gb v l W w' v' l' := by
  obtain ⟨s1, s2⟩ := bOne_sums h.one
  have hz := soD_size x
  refine (bfPut_any h.bin x 0 1 now (soD x) x0 x1 (by omega) (by omega) (by omega) (by decide) (by decide)).mono ?_
  rintro e w' ⟨kd, gone, s', v', l', ev, rfl, hP, hE, hI, hK, hB⟩
  obtain ⟨rfl, rfl, hone, hmem, hkd⟩ := putOne (D := soD) (T0 := T0) hP (show (0 : Int) ≤ x from x0) h.one hT rfl hz (by rw [show am 1 soS.cf 1024 = 100 from by decide]; omega) (by rw [show am 1 soS.cp 65536 = 100 from by decide]; omega) (by rw [show am 1 soS.cb 67108864 = 1000 from by decide]; omega)
  obtain ⟨ea, ec, rfl⟩ := hE.formG
  refine ⟨kd, ea, ec, v', l', rfl, ⟨hmem, hkd⟩, ⟨hI, h.map.same (hK.block _ h.map.lt h.out), fun e => ?_, h.bel.trans (hB.mono h.gB), h.gB, h.gg, hone⟩, hK⟩
  rcases hK.foot _ e with e | e
  · exact h.out e
  · have := h.map.lt
    omega
end
theorem soF {f : Int → Option Bool} {l l' : List BF} {x : Int} (h : Hid (∀ y, (f y = some true ∧ y ∈ l.map BF.t) ∨ (f y = none ∧ y ∉ l.map BF.t))) (hm : ∀ y, y ∈ l'.map BF.t ↔ (y ∈ l.map BF.t ∨ y = x)) : Hid (∀ y, ((if y = x then some true else f y) = some true ∧ y ∈ l'.map BF.t) ∨ ((if y = x then some true else f y) = none ∧ y ∉ l'.map BF.t)) := Lib.hid (fun y => by
  rw [hm y]
  by_cases e : y = x
  · rw [if_pos e]
    exact .inl ⟨rfl, .inr e⟩
  · rw [if_neg e]
    rcases h.out y with ⟨h1, h2⟩ | ⟨h1, h2⟩
    · exact .inl ⟨h1, .inl h2⟩
    · exact .inr ⟨h1, fun h3 => h3.elim h2 e⟩)
theorem soCap {W : World} {b : Nat} {e : TypeId} {size n c : Nat} {a : Option Addr} {xs : List Value} (h : OwnE W b e size (.slice a n c) n xs) : n ≤ c ∧ c ≤ maxLen := by
  rcases h.1.2 with ⟨e, h0⟩ | ⟨g, off, cap, e, q1, q2, q3, q4, q5, q6⟩
  · cases e
    exact ⟨by omega, by unfold maxLen; omega⟩
  · cases e
    exact ⟨q3, q4⟩
theorem bfFs_at {l : List BF} {j : Nat} {x : BF} (h : l[j]? = some x) : (bfFs l)[j * 2]? = some (.int .u32 x.t) ∧ (bfFs l)[j * 2 + 1]? = some (.string (bfD x)) := by
  induction l generalizing j with
  | nil => simp at h
  | cons y l ih =>
    have e : bfFs (y :: l) = Value.int .u32 y.t :: Value.string (bfD y) :: bfFs l := rfl
    rw [e]
    match j with
    | 0 =>
      simp at h
      subst h
      exact ⟨rfl, rfl⟩
    | j + 1 =>
      rw [List.getElem?_cons_succ] at h
      have := ih h
      rw [show (j + 1) * 2 = j * 2 + 1 + 1 by omega]
      simpa using this
end Go.Proofs.Ytgomijhckmcfeaa
