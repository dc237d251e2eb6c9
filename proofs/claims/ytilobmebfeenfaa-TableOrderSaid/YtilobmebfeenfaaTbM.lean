/- table: its entries, in memory; where one would be; small calls. -/
import Derived.Test.YtilobmebfeenfaaTbIo
import Derived.Test.YtilobmebfeenfaaOrdM
namespace Go.Proofs.Ytilobmebfeenfaa
open Go.RowKit
set_option linter.unusedVariables false
set_option linter.unusedSimpArgs false
/-- A block with just these cells. -/
def AtB (T : TypeId) (W : World) (g : Nat) (cs : Array Value) : Prop := W.heap[g]? = some (.cells cs T (0, 0))
section
variable {T : TypeId} {W W' : World} {g b : Nat} {cs : Array Value}
theorem AtB.cell (h : AtB T W g cs) (i : Nat) : W.cell? ⟨g, i, none⟩ = cs[i]? := cell_of_row W g i _ _ (0, 0) h
theorem AtB.free (h : AtB T W g cs) (i : Nat) : W.frozen? ⟨g, i, none⟩ = false := by unfold AtB at h; simp [World.frozen?, h]
theorem AtB.lt (h : AtB T W g cs) : g < W.heap.size := lt_of_block h
theorem AtB.later (h : AtB T W g cs) (hb : Below W.heap.size W W') : AtB T W' g cs := by unfold AtB; rw [hb.block g h.lt]; exact h
theorem AtB.drew (h : AtB T W g cs) : AtB T W.drew g cs := h
theorem AtB.only (h : AtB T W g cs) (hg : g ≠ b) (ho : Only b W W') : AtB T W' g cs := by unfold AtB; rw [ho.block g hg]; exact h
theorem AtB.same (h : AtB T W g cs) (e : W'.heap[g]? = W.heap[g]?) : AtB T W' g cs := by unfold AtB; rw [e]; exact h
theorem atB_new (T : TypeId) (W : World) (n : Nat) (cs : Array Value) (h : n = W.heap.size) : AtB T (W.alloc (.cells cs T)) n cs := by subst h; exact heap_alloc_new W _
theorem AtB.cells3 {c0 c1 c2 : Value} (h : AtB T W g #[c0, c1, c2]) : W.cell? ⟨g, 0, none⟩ = some c0 ∧ W.cell? ⟨g, 1, none⟩ = some c1 ∧ W.cell? ⟨g, 2, none⟩ = some c2 := by
  have f := fun i => h.cell i
  exact ⟨by simpa using f 0, by simpa using f 1, by simpa using f 2⟩
end
theorem blkB_ne {W : World} {a b : Nat} {cs cs' : Array Value} {T T' : TypeId} (ha : W.heap[a]? = some (.cells cs T (0, 0))) (hb : W.heap[b]? = some (.cells cs' T' (0, 0))) (hT : T ≠ T') : a ≠ b := by
  intro e
  subst e
  rw [ha] at hb
  simp only [Option.some.injEq, Obj.cells.injEq] at hb
  exact hT hb.2.1
theorem cellB_same {W W' : World} {g i : Nat} (h : W'.heap[g]? = W.heap[g]?) : W'.cell? ⟨g, i, none⟩ = W.cell? ⟨g, i, none⟩ := by simp [World.cell?, h]
/-- An entry. -/
structure TB where
  id : Int
  up : Bool
  rate : Int
def TB.rs (r : TB) : List Value := [.int .i64 r.id, .bool r.up, .int .i64 r.rate]
theorem TB.rs_len (r : TB) : r.rs.length = 3 := rfl
theorem TB.rs_one (r : TB) : ∀ u ∈ r.rs, u.oneCell' = true := by
  intro u hu
  unfold TB.rs at hu
  simp only [List.mem_cons, List.not_mem_nil, or_false] at hu
  rcases hu with rfl | rfl | rfl <;> rfl
def tbV (l : List TB) : List Value := rowsV TB.rs l
theorem tbV_len (l : List TB) : (tbV l).length = l.length * 3 := rowsV_len TB.rs_len l
theorem tbV_one (l : List TB) : ∀ u ∈ tbV l, u.oneCell' = true := rowsV_one TB.rs_one l
theorem tbV_ins (l : List TB) (i : Nat) (r : TB) : (tbV l).take (i * 3) ++ r.rs ++ (tbV l).drop (i * 3) = tbV (l.take i ++ r :: l.drop i) := by
  unfold tbV
  rw [rowsV_take TB.rs_len, rowsV_drop TB.rs_len, rowsV_app, rowsV_cons, List.append_assoc]
def TbUp (l : List TB) : Prop := l.Pairwise (fun a b => a.id < b.id)
/-- Where the first of at least this ID is. -/
def tbPos (s : Int) (l : List TB) : Nat := l.findIdx (fun r => decide (s ≤ r.id))
theorem tbPos_le (s : Int) (l : List TB) : tbPos s l ≤ l.length := List.findIdx_le_length
theorem tbFindIdx_lt {α : Type} (q : α → Bool) (l : List α) (i : Nat) (x : α) (h : l[i]? = some x) (hi : i < l.findIdx q) : q x = false := by
  obtain ⟨hl, rfl⟩ := List.getElem?_eq_some_iff.1 h
  have := List.not_of_lt_findIdx hi
  simpa using this
theorem tbFindIdx_ge {α : Type} (q : α → Bool) (l : List α) (hm : l.Pairwise (fun a b => q a = true → q b = true)) (i : Nat) (x : α) (h : l[i]? = some x) (hi : l.findIdx q ≤ i) : q x = true := by
  obtain ⟨hl, rfl⟩ := List.getElem?_eq_some_iff.1 h
  have hw : l.findIdx q < l.length := by omega
  have h0 : q (l[l.findIdx q]) = true := List.findIdx_getElem (w := hw)
  rcases Nat.lt_or_eq_of_le hi with h1 | h1
  · exact (List.pairwise_iff_getElem.1 hm) _ _ hw hl h1 h0
  · rw [show l[i] = l[l.findIdx q] by congr 1; exact h1.symm]
    exact h0
theorem tbUp_pos {l : List TB} (h : TbUp l) (s : Int) : l.Pairwise (fun a b => decide (s ≤ a.id) = true → decide (s ≤ b.id) = true) :=
  List.Pairwise.imp (R := fun (a b : TB) => a.id < b.id) (fun hab h0 => by simp at h0 ⊢; omega) h
theorem tbPos_lt (s : Int) (l : List TB) (i : Nat) (r : TB) (h : l[i]? = some r) (hi : i < tbPos s l) : r.id < s := by
  have := tbFindIdx_lt _ l i r h hi
  simp at this
  omega
theorem tbPos_ge {l : List TB} (hu : TbUp l) (s : Int) (i : Nat) (r : TB) (h : l[i]? = some r) (hi : tbPos s l ≤ i) : s ≤ r.id := by
  have := tbFindIdx_ge _ l (tbUp_pos hu s) i r h hi
  simpa using this
/-- Behind a new entry. -/
def tbPut (r : TB) (l : List TB) : List TB := l.take (tbPos r.id l) ++ r :: l.drop (tbPos r.id l)
theorem tbPut_len (r : TB) (l : List TB) : (tbPut r l).length = l.length + 1 := by
  have := tbPos_le r.id l
  unfold tbPut
  simp
  omega
theorem tbPut_mem (r : TB) (l : List TB) (x : TB) : x ∈ tbPut r l ↔ x = r ∨ x ∈ l := by
  unfold tbPut
  constructor
  · intro h
    rcases List.mem_append.1 h with h | h
    · exact .inr (List.mem_of_mem_take h)
    · rcases List.mem_cons.1 h with h | h
      · exact .inl h
      · exact .inr (List.mem_of_mem_drop h)
  · rintro (rfl | h)
    · simp
    · rw [← List.take_append_drop (tbPos r.id l) l] at h
      rcases List.mem_append.1 h with h | h
      · exact List.mem_append.2 (.inl h)
      · exact List.mem_append.2 (.inr (List.mem_cons_of_mem _ h))
theorem tbPut_up {r : TB} {l : List TB} (hu : TbUp l) (hne : ∀ x ∈ l, x.id ≠ r.id) : TbUp (tbPut r l) := by
  unfold tbPut TbUp
  rw [List.pairwise_append]
  refine ⟨hu.sublist (List.take_sublist _ _), List.pairwise_cons.2 ⟨fun y hy => ?_, hu.sublist (List.drop_sublist _ _)⟩, fun a ha b hb => ?_⟩
  · obtain ⟨i, hi⟩ := List.getElem?_of_mem hy
    rw [List.getElem?_drop] at hi
    have h1 := tbPos_ge hu r.id _ y hi (by omega)
    have h2 := hne y (List.mem_of_mem_drop hy)
    omega
  · have ha1 : a.id < r.id := by
      obtain ⟨i, hi⟩ := List.getElem?_of_mem ha
      rw [List.getElem?_take] at hi
      split at hi
      · exact tbPos_lt r.id l i a hi (by omega)
      · cases hi
    rcases List.mem_cons.1 hb with rfl | hb
    · exact ha1
    · obtain ⟨i, hi⟩ := List.getElem?_of_mem hb
      rw [List.getElem?_drop] at hi
      have h1 := tbPos_ge hu r.id _ b hi (by omega)
      omega
/-- A Table in memory. -/
structure TbIn (W : World) (base gt : Nat) (m ver : Int) (v : Value) (l : List TB) : Prop where
  bs : base ≤ gt
  at3 : AtB 93 W gt #[.int .i64 m, .int .i64 ver, v]
  row : OwnE W base 70 3 v l.length (tbV l)
  up : TbUp l
  ln : l.length ≤ 15
section
variable {W W' : World} {base gt : Nat} {m ver : Int} {v : Value} {l : List TB}
theorem TbIn.keep (h : TbIn W base gt m ver v l) (hs : W.heap.size ≤ W'.heap.size) (h1 : W'.heap[gt]? = W.heap[gt]?) (h2 : ∀ k, v.ownBlock = some k → W'.heap[k]? = W.heap[k]?) : TbIn W' base gt m ver v l :=
  ⟨h.bs, h.at3.same h1, h.row.keep hs (fun k cs q1 q2 => h2 k q1), h.up, h.ln⟩
theorem TbIn.row_lt (h : TbIn W base gt m ver v l) {k : Nat} (hk : v.ownBlock = some k) : base ≤ k ∧ k < W.heap.size := by
  rcases h.row.1.2 with ⟨e, _⟩ | ⟨g, off, cap, e, q1, q2, _⟩
  · rw [e] at hk; cases hk
  · rw [e] at hk; cases hk; exact ⟨q1, q2⟩
theorem TbIn.later (h : TbIn W base gt m ver v l) (hb : Below W.heap.size W W') : TbIn W' base gt m ver v l := h.keep hb.size (hb.block gt h.at3.lt) (fun k hk => hb.block k (h.row_lt hk).2)
theorem TbIn.row_ne (h : TbIn W base gt m ver v l) : v.ownBlock ≠ some gt := fun e => by
  obtain ⟨cs, hcs⟩ := h.row.2 gt e
  exact blkB_ne hcs h.at3 (by decide) rfl
/-- Its entries are read. -/
theorem TbIn.rd (h : TbIn W base gt m ver v l) : ∃ a cap, v = .slice a l.length cap ∧ l.length ≤ cap ∧ cap ≤ 9223372036854775807 ∧ ∀ i r, l[i]? = some r → ∃ g off, a = some ⟨g, off, none⟩ ∧ W.cell? ⟨g, off + i * 3, none⟩ = some (.int .i64 r.id) ∧ W.cell? ⟨g, off + i * 3 + 1, none⟩ = some (.bool r.up) ∧ W.cell? ⟨g, off + i * 3 + 2, none⟩ = some (.int .i64 r.rate) := by
  rcases h.row.1.2 with ⟨rfl, h0⟩ | ⟨g, off, cap, rfl, _, _, h1, h2, _, hc⟩
  · refine ⟨none, 0, by rw [h0], by omega, by omega, fun i r hr => ?_⟩
    have := (List.getElem?_eq_some_iff.1 hr).1
    omega
  · refine ⟨_, _, rfl, h1, by unfold maxLen at h2; omega, fun i r hr => ⟨g, off, rfl, ?_⟩⟩
    have f := fun j u hj => hc _ u (rowsV_at TB.rs_len l i r hr j u hj)
    refine ⟨?_, ?_, ?_⟩
    · exact f 0 _ rfl
    · rw [Nat.add_assoc]; exact f 1 _ rfl
    · rw [Nat.add_assoc]; exact f 2 _ rfl
end
def tbMay (r : TB) : Bool := decide (1 ≤ r.id) && decide (r.id ≤ 15) && decide (0 ≤ r.rate) && decide (r.rate ≤ 65535)
set_option maxHeartbeats 1600000 in
theorem tbMay_any (r : TB) (w : World) : Calls Try.prog 49 #[.agg #[.int .i64 r.id, .bool r.up, .int .i64 r.rate]] w fun e w' => e = .returned (.bool (tbMay r)) ∧ Below w.heap.size w w' := by
  obtain ⟨id, up, rate⟩ := r
  have hX := atB_new 70 w w.heap.size #[.int .i64 id, .bool up, .int .i64 rate] rfl
  have hb : Below w.heap.size w (w.alloc (.cells #[.int .i64 id, .bool up, .int .i64 rate] 70)) := (Below.refl _ _).alloc (Nat.le_refl _) _
  go_enter Try.func49, Try.ntmps49
  go_upto_region 1 with fail
  generalize (w.alloc (.cells #[.int .i64 id, .bool up, .int .i64 rate] 70)) = w2 at hX hb ⊢
  generalize hg : w.heap.size = g at hX hb ⊢
  have HG := Lib.hid hg
  clear hg
  obtain ⟨_, _, _⟩ := hX.cells3
  by_cases q0 : 1 ≤ id
  · have e0 : decide (1 ≤ id) = true := decide_eq_true q0
    by_cases q1 : id ≤ 15
    · have e1 : decide (id ≤ 15) = true := decide_eq_true q1
      by_cases q2 : 0 ≤ rate
      · have e2 : decide (0 ≤ rate) = true := decide_eq_true q2
        go_wp2_with fail
        go_ret
        exact ⟨by simp [tbMay, e0, e1, e2], by rw [HG.out]; exact hb⟩
      · have e2 : decide (0 ≤ rate) = false := decide_eq_false q2
        go_wp2_with fail
        go_ret
        exact ⟨by simp [tbMay, e0, e1, e2], by rw [HG.out]; exact hb⟩
    · have e1 : decide (id ≤ 15) = false := decide_eq_false q1
      go_wp2_with fail
      go_ret
      exact ⟨by simp [tbMay, e0, e1], by rw [HG.out]; exact hb⟩
  · have e0 : decide (1 ≤ id) = false := decide_eq_false q0
    go_wp2_with fail
    go_ret
    exact ⟨by simp [tbMay, e0], by rw [HG.out]; exact hb⟩
section
variable {w : World} {base gt : Nat} {m ver : Int} {v : Value} {l : List TB}
theorem tbVersion_q (h : TbIn w base gt m ver v l) : Calls Try.prog 24 #[.pointer (some ⟨gt, 0, none⟩)] w fun e w' => e = .returned (.int .i64 ver) ∧ w' = w := by
  obtain ⟨_, _, _⟩ := h.at3.cells3
  go_enter Try.func24, Try.ntmps24
  go_wp2
  go_ret
  exact ⟨rfl, rfl⟩
theorem tbLen_q (h : TbIn w base gt m ver v l) : Calls Try.prog 38 #[.pointer (some ⟨gt, 0, none⟩)] w fun e w' => e = .returned (.int .i64 l.length) ∧ w' = w := by
  obtain ⟨_, _, _⟩ := h.at3.cells3
  obtain ⟨a, c, rfl⟩ := h.row.formG
  go_enter Try.func38, Try.ntmps38
  go_wp2
  go_ret
  exact ⟨rfl, rfl⟩
theorem tbRoom_q (h : TbIn w base gt m ver v l) : Calls Try.prog 51 #[.pointer (some ⟨gt, 0, none⟩)] w fun e w' => e = .returned (.int .i64 (min (max m 1) 15)) ∧ w' = w := by
  obtain ⟨_, _, _⟩ := h.at3.cells3
  go_enter Try.func51, Try.ntmps51
  go_wp2
  go_ret
  exact ⟨rfl, rfl⟩
theorem tbNew_any (m : Int) (w : World) : Calls Try.prog 15 #[.int .i64 m] w fun e w' => ∃ gt, e = .returned (.pointer (some ⟨gt, 0, none⟩)) ∧ TbIn w' w.heap.size gt m 0 (.slice none 0 0) [] ∧ Below w.heap.size w w' := by
  go_enter Try.func15, Try.ntmps15
  go_wp2
  go_ret
  exact ⟨_, rfl, ⟨Nat.le_refl _, atB_new _ _ _ _ rfl, ownE_nil _ _ _ _, List.Pairwise.nil, by simp⟩, (Below.refl _ _).alloc (Nat.le_refl _) _⟩
end
end Go.Proofs.Ytilobmebfeenfaa
