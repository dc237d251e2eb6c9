/- share: New, EqualFunc, Set of weights that rise, at a share that has none. -/
import Derived.Test.YtaiekbhpgbmalaaShO
import Derived.Test.YtaiekbhpgbmalaaPenI
import Derived.Test.YtaiekbhpgbmalaaApB
namespace Go.Proofs.Ytaiekbhpgbmalaa
open Go.RowKit
set_option linter.unusedVariables false
set_option linter.unusedSimpArgs false
/-- A share's one cell in memory. -/
def At1 (T : TypeId) (W : World) (g : Nat) (v : Value) : Prop := W.heap[g]? = some (.cells #[v] T (0, 0))
section
variable {T : TypeId} {W W' : World} {g b : Nat} {v : Value}
theorem At1.cell (h : At1 T W g v) : W.cell? ⟨g, 0, none⟩ = some v := by unfold At1 at h; simp [World.cell?, h]
theorem At1.free (h : At1 T W g v) : W.frozen? ⟨g, 0, none⟩ = false := by unfold At1 at h; simp [World.frozen?, h]
theorem At1.later (h : At1 T W g v) (hb : Below W.heap.size W W') : At1 T W' g v := by unfold At1; rw [hb.block g (lt_of_block h)]; exact h
theorem At1.lt (h : At1 T W g v) : g < W.heap.size := lt_of_block h
theorem At1.alloc (h : At1 T W g v) (o : Obj) : At1 T (W.alloc o) g v := ga_old _ _ _ _ h
theorem At1.drew (h : At1 T W g v) : At1 T W.drew g v := h
theorem At1.set (h : At1 T W g v) (u : Value) : At1 T (W.setCell ⟨g, 0, none⟩ u) g u := block_setCell h
end
theorem shNew_any (w : World) : Calls Try.prog 5 #[] w fun e w' => e = .returned (.pointer (some ⟨w.heap.size, 0, none⟩)) ∧ At1 38 w' w.heap.size (.slice none 0 0) ∧ Below w.heap.size w w' := by
  go_enter Try.func5, Try.ntmps5
  go_wp2_with fail
  go_ret
  exact ⟨by first | rfl | simp, heap_alloc_new w _, (Below.refl _ _).alloc (Nat.le_refl _) _⟩
theorem shEqNo_any (a : Option Addr) (n c : Nat) (f : Value) (w : World) (hn : 0 < n) :
    Calls Try.prog 11 #[.slice none 0 0, .slice a n c, f] w fun e w' => e = .returned (.bool false) ∧ w' = w := by
  have hne : ((0 : Int) != (n : Int)) = true := by simp; omega
  go_enter Try.func11, Try.ntmps11
  go_wp2_with fail
  go_ret
  exact ⟨rfl, rfl⟩
theorem shEqNil_any (a : Option Addr) (c : Nat) (f : Value) (w : World) :
    Calls Try.prog 11 #[.slice none 0 0, .slice a 0 c, f] w fun e w' => e = .returned (.bool true) ∧ w' = w := by
  go_enter Try.func11, Try.ntmps11
  go_wp2_with fail
  go_loop [17] (fun i => i = .int .i64 0) (fun _ => 0)
  case atStart => rfl
  case round =>
    obtain rfl := hrel
    go_wp2_with fail
    go_ret
    exact ⟨rfl, rfl⟩
/-- The loads of weights, of which nothing was carried. -/
def ldW (ws : List (Int × Int)) : List SL := (clipW ws).map fun x => ⟨x.1, x.2, 0⟩
theorem ldW_take (ws : List (Int × Int)) (k : Nat) (p u : Int) (h : (clipW ws)[k]? = some (p, u)) : ((clipW ws).take (k + 1)).map (fun x => (⟨x.1, x.2, 0⟩ : SL)) = ((clipW ws).take k).map (fun x => (⟨x.1, x.2, 0⟩ : SL)) ++ [⟨p, u, 0⟩] := by
  rw [List.take_add_one, h]
  simp
theorem row_neL {W : World} {B e1 n m : Nat} {v : Value} {l : List Value} {k : Nat} {T : TypeId} {cs : Array Value} (hv : W.ownsRow B e1 m v n l) (hk : W.heap[k]? = some (.cells cs T (0, 0))) (hne : T ≠ e1) : some k ≠ v.ownBlock := fun e => by
  obtain ⟨cs', hcs⟩ := hasT_own hv k e.symm
  rw [hk] at hcs
  simp only [Option.some.injEq, Obj.cells.injEq] at hcs
  exact hne hcs.2.1
/-- 's.loads = append(s.loads, load{..})', the append. -/
theorem step_sh {ops : Array Oper} {o : Oper} {a : Act} {w : World} {K : Act → World → Prop} {Q : Exit → Act → World → Prop} {E : Prop} (hgd : o.guard = none) (s x : Operand)
    (ho : o.op = .call { callee := .builtin .append, args := #[s, x], argTypes := #[36, 36] })
    (B r : Nat) (v : Value) (l : List SL) (y : SL)
    (hX : At1 38 w r v) (hv : w.ownsRow B 42 3 v l.length (shV l)) (hB : B ≤ w.heap.size) (hl : l.length ≤ 1000) (hs : a.eval s = v) (hx : a.eval x = .slice (some ⟨w.heap.size, 0, none⟩) 1 1)
    (h : ∀ ad c w', Hid (w'.ownsRow B 42 3 (.slice ad (l.length + 1) c) (l.length + 1) (shV (l ++ [y])) ∧ At1 38 w' r v ∧ (∀ B0 w0, B0 ≤ B → Below B0 w0 w → Below B0 w0 w') ∧ (∀ (k : Nat) (cs : Array Value) (T : TypeId), w.heap[k]? = some (.cells cs T (0, 0)) → T ≠ 42 → w'.heap[k]? = some (.cells cs T (0, 0))) ∧ w.heap.size ≤ w'.heap.size) → w'.cell? ⟨r, 0, none⟩ = some v → w'.frozen? ⟨r, 0, none⟩ = false → K (a.put o.dst (.slice ad (l.length + 1) c)) w') :
    if Region.wanted o (yielded ops a.tmps) = true then Oper.wp Try.prog o a (w.alloc (.cells #[.int .i64 y.p, .int .i64 y.w, .int .i64 y.c] 42)) K Q else E := by
  obtain ⟨i0, hi, hz0, hz1, hz2⟩ := info_parts info_load
  have hv1 := hv.alloc (.cells #[.int .i64 y.p, .int .i64 y.w, .int .i64 y.c] 42)
  rw [if_pos (by simp [Region.wanted, hgd])]
  refine wp_append_own _ s x _ ho B 42 i0 _ 3 24 Try.underlying36 hi hz0 hz1 hz2 rfl (by decide) v l.length (shV l) hs hv1 ⟨w.heap.size, 0, none⟩ 1 1 [.int .i64 y.p, .int .i64 y.w, .int .i64 y.c] hx rfl ?_ ?_ (by unfold maxLen; omega) (by omega) (by simp; omega) ?_
  · intro j u' hj
    rw [addr_addS, cell_of_row _ w.heap.size j _ 42 (0, 0) (heap_alloc_new w _), ← Array.getElem?_toList]
    exact hj
  · intro u' hu
    simp only [List.mem_cons, List.not_mem_nil, or_false] at hu
    rcases hu with rfl | rfl | rfl <;> rfl
  · intro v' w' hown hgrow _
    obtain ⟨ad, c, rfl⟩ : ∃ ad c, v' = .slice ad (l.length + 1) c := by
      rcases hown.2 with ⟨_, h0⟩ | ⟨g, cap, cur, rfl, _⟩
      · omega
      · exact ⟨_, _, rfl⟩
    have hX2 : At1 38 w' r v := by
      have h1 := hX.alloc (.cells #[.int .i64 y.p, .int .i64 y.w, .int .i64 y.c] 42)
      unfold At1 at h1 ⊢
      rw [hgrow.block r (lt_of_block h1) (row_neL hv1 h1 (by decide))]
      exact h1
    have hkp : ∀ (k : Nat) (cs : Array Value) (T : TypeId), w.heap[k]? = some (.cells cs T (0, 0)) → T ≠ 42 → w'.heap[k]? = some (.cells cs T (0, 0)) := fun k cs T hk hT => by
      have h1 := ga_old _ (.cells #[.int .i64 y.p, .int .i64 y.w, .int .i64 y.c] 42) _ _ hk
      rw [hgrow.block k (lt_of_block h1) (row_neL hv1 h1 hT)]
      exact h1
    refine h ad c w' (Lib.hid ⟨?_, hX2, fun B0 w0 h0 hb => ?_, hkp, by have := hgrow.size; simp at this; omega⟩) hX2.cell hX2.free
    · rw [shV_snoc]; exact hown
    · exact (hb.alloc (by omega) _).grown hgrow (by simp; omega) (fun k hk => Nat.le_trans h0 (hv1.lt k hk).1)
theorem row_keepT {W W' : World} {B e m n : Nat} {v : Value} {xs : List Value} (h : W.ownsRow B e m v n xs) (hk : ∀ (k : Nat) (cs : Array Value), W.heap[k]? = some (.cells cs e (0, 0)) → W'.heap[k]? = some (.cells cs e (0, 0))) : W'.ownsRow B e m v n xs := by
  refine ⟨h.1, ?_⟩
  rcases h.2 with h0 | ⟨g, cap, cur, e1, q1, q2, q3⟩
  · exact .inl h0
  · exact .inr ⟨g, cap, cur, e1, q1, hk g cur q2, q3⟩
theorem row_onlyL {W W' : World} {B e m n g : Nat} {T : TypeId} {cs : Array Value} {v : Value} {xs : List Value} (h : W.ownsRow B e m v n xs) (ho : Only g W W') (hg : W.heap[g]? = some (.cells cs T (0, 0))) (hT : T ≠ e) : W'.ownsRow B e m v n xs :=
  row_keepT h (fun k cs' hk => by
    rw [ho.block k (fun e' => by subst e'; rw [hg] at hk; simp only [Option.some.injEq, Obj.cells.injEq] at hk; exact hT hk.2.1)]
    exact hk)
end Go.Proofs.Ytaiekbhpgbmalaa
