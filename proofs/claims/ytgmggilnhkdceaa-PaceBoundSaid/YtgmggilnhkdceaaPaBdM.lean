/- PaceBound: plain facts; append of one number to a slice of the call's own. -/
import Derived.Test.YtgmggilnhkdceaaPaW
import Derived.Test.YtgmggilnhkdceaaRecs
import Derived.Test.YtgmggilnhkdceaaApA
namespace Go.Proofs.Ytgmggilnhkdceaa
open Go.RowKit
set_option linter.unusedVariables false
def hisA (h : List (Int × Int)) : List Value := h.reverse.map fun x => .int .i64 x.1
def hisN (h : List (Int × Int)) : List Value := h.reverse.map fun x => .int .i64 x.2
theorem hisA_cons (t n : Int) (h : List (Int × Int)) : hisA ((t, n) :: h) = hisA h ++ [.int .i64 t] := by simp [hisA]
theorem hisN_cons (t n : Int) (h : List (Int × Int)) : hisN ((t, n) :: h) = hisN h ++ [.int .i64 n] := by simp [hisN]
def sumH (h : List (Int × Int)) (j : Nat) : Int := ((h.take j).map (·.2)).sum
theorem sumH_zero (h : List (Int × Int)) : sumH h 0 = 0 := by simp [sumH]
theorem sumH_step (h : List (Int × Int)) (j : Nat) (t m : Int) (e : h[j]? = some (t, m)) : sumH h (j + 1) = sumH h j + m := by
  unfold sumH
  rw [List.take_add_one, e]
  simp
structure PbI (r b now : Int) (p : PP) (h : List (Int × Int)) : Prop where
  ok : p.Ok
  pr : p.r = r
  pb : p.b = b
  pl : p.l = now
  held : Held r b now p.k h
  mem : ∀ x ∈ h, 0 ≤ x.1 ∧ x.1 ≤ now ∧ 0 ≤ x.2 ∧ x.2 ≤ 65535
theorem pbI_new (r b : Int) (r0 : 1 ≤ r) (r1 : r ≤ 4096) (b0 : 1 ≤ b) (b1 : b ≤ 65536) : PbI r b 0 ⟨r, b, b, 0⟩ [] :=
  ⟨⟨r0, by simp only; omega, b0, by simp only; omega, by simp only; omega, by simp only; omega, by simp only; omega, by simp only; omega⟩, rfl, rfl, rfl, held_nil _ _ _ _, fun x hx => absurd hx (by simp)⟩
theorem PbI.step {r b now : Int} {p : PP} {h : List (Int × Int)} (I : PbI r b now p h) (t n : Int) (ht : now ≤ t) (h1 : t ≤ 1099511627776) (n0 : 0 ≤ n) (n1 : n ≤ 65535) (t0 : 0 ≤ t) :
    PbI r b t (p.take t n) ((t, if p.can t n then n else 0) :: h) := by
  obtain ⟨ok, rfl, rfl, rfl, held, mem⟩ := I
  obtain ⟨e0, e1, e2, e3⟩ := p.held_take ok h held t n ht h1 n0
  refine ⟨p.take_ok t n, e1, e2, e3, e0, fun x hx => ?_⟩
  rcases List.mem_cons.1 hx with rfl | hx
  · simp only
    split <;> omega
  · have := mem x hx
    omega
theorem sumH_bd {r b now : Int} {p : PP} {h : List (Int × Int)} (I : PbI r b now p h) (j : Nat) (hj : j ≤ 60) : 0 ≤ sumH h j ∧ sumH h j ≤ 65535 * (j : Int) := by
  have hm : ∀ l : List (Int × Int), (∀ x ∈ l, 0 ≤ x.2 ∧ x.2 ≤ 65535) → 0 ≤ (l.map (·.2)).sum ∧ (l.map (·.2)).sum ≤ 65535 * (l.length : Int) := by
    intro l
    induction l with
    | nil => intro _; simp
    | cons x l ih =>
      intro h
      have e := ih (fun y hy => h y (List.mem_cons_of_mem _ hy))
      have e1 := h x (List.mem_cons_self ..)
      rw [List.map_cons, List.sum_cons, List.length_cons]
      omega
  have e := hm (h.take j) (fun x hx => by have := I.mem x (List.mem_of_mem_take hx); omega)
  have hl : (h.take j).length ≤ j := by rw [List.length_take]; omega
  unfold sumH
  omega
/-- What is read at a place, and that it keeps the bound. -/
theorem PbI.at {r b now : Int} {p : PP} {h : List (Int × Int)} (I : PbI r b now p h) (i j : Nat) (e : i + j + 1 = h.length) : ∃ t m, (hisA h)[i]? = some (.int .i64 t) ∧ (hisN h)[i]? = some (.int .i64 m) ∧ 0 ≤ t ∧ t ≤ now ∧ 0 ≤ m ∧ m ≤ 65535 ∧ sumH h (j + 1) = sumH h j + m ∧ sumH h (j + 1) ≤ b + r * (now - t) := by
  have hj : j < h.length := by omega
  have e1 : h[j]? = some (h[j].1, h[j].2) := List.getElem?_eq_getElem hj
  have hm := I.mem h[j] (List.getElem_mem hj)
  have hi : h.reverse[i]? = some h[j] := by
    rw [List.getElem?_reverse (by omega)]
    rw [show h.length - 1 - i = j by omega]
    exact List.getElem?_eq_getElem hj
  refine ⟨h[j].1, h[j].2, ?_, ?_, hm.1, hm.2.1, hm.2.2.1, hm.2.2.2, sumH_step h j _ _ e1, ?_⟩
  · unfold hisA; rw [List.getElem?_map, hi]; rfl
  · unfold hisN; rw [List.getElem?_map, hi]; rfl
  · have := held_bound r b now p.k h I.held (by have := I.ok.k0; omega) j hj
    rw [List.getD_eq_getElem?_getD, e1] at this
    exact this
theorem PbI.mul_bd {r b now : Int} {p : PP} {h : List (Int × Int)} (I : PbI r b now p h) (r1 : r ≤ 4096) (d : Int) (d0 : 0 ≤ d) (d1 : d ≤ 4096) : 0 ≤ r * d ∧ r * d ≤ 16777216 := by
  have h0 := I.ok.r0
  rw [I.pr] at h0
  have e0 := Int.mul_nonneg (show 0 ≤ r by omega) d0
  have e1 := Int.mul_le_mul r1 d1 d0 (by omega)
  omega
theorem info_i64p : (Try.prog.info? 3).map (fun i => (i.zero, i.size, i.bytes)) = some (some (.int .i64 0), 1, 8) := by kernel_rfl
/-- 'append' of one number to a slice of the call's own, behind the making of what is appended. -/
theorem append_at1 {P : Program} {w W : World} {ops : Array Oper} {rest : List Oper} {o : Oper} {a : Act} {Q : Exit → Act → World → Prop}
    (hg : o.guard = none) (s x : Operand) (t : TypeId) (hop : o.op = Op.call { callee := Callee.builtin Builtin.append, args := #[s, x], argTypes := #[t, t] })
    (e : TypeId) (i : TypeInfo) (z : Value) (bytes : Nat) (h1 : P.underlying t = some (.slice e)) (h2 : P.info? e = some i) (h3 : i.zero = some z) (h4 : i.size = 1) (h5 : i.bytes = bytes) (h6 : z.cells.size = 1)
    (base : Nat) (v : Value) (n : Nat) (xs : List Value) (hs : a.eval s = v) (hown : OwnAt w base 1 v n xs)
    (u : Value) (hx : a.eval x = .slice (some ⟨w.heap.size, 0, none⟩) 1 1) (h1c : u.oneCell' = true)
    (b1 : n + 1 ≤ maxLen) (b2 : (n + 1) * bytes ≤ 140737488355328) (hbase : base ≤ w.heap.size) (B : Nat) (hB : B ≤ base) (hbel : Below B W w)
    (hK : ∀ v' w', OwnAt w' base 1 v' (n + 1) (xs ++ [u]) → Below B W w' → (w.alloc (.cells #[u] e)).grownBy w' v.ownBlock → (v'.ownBlock = v.ownBlock ∨ ∃ k, v'.ownBlock = some k ∧ w.heap.size ≤ k) → wpList P ops Q rest (a.put o.dst v') w') :
    wpList P ops Q (o :: rest) a (w.alloc (.cells #[u] e)) := by
  refine append_at _ hg s x t hop e i z 1 bytes h1 h2 h3 h4 h5 h6 (by decide) base v n xs hs (hown.alloc _) ⟨w.heap.size, 0, none⟩ 1 1 [u] hx rfl ?_ ?_ b1 b2 (by simp; omega) ?_
  · intro j u' hj
    match j, hj with
    | 0, hj => simp at hj; subst hj; simp [Addr.add]
  · intro u' hu; simp at hu; subst hu; exact h1c
  · intro v' w' r1 r2 r3
    refine hK v' w' r1 ?_ r2 ?_
    · refine (hbel.alloc (by omega) _).grown r2 (by simp; omega) ?_
      intro k hk
      exact Nat.le_trans hB (hown.lt k hk).1
    · rcases r3 with r3 | ⟨k, r3, r4⟩
      · exact .inl r3
      · exact .inr ⟨k, r3, by simp at r4; omega⟩
end Go.Proofs.Ytgmggilnhkdceaa
