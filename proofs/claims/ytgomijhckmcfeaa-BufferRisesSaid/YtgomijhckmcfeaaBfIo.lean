/- slices.Insert of one pointer, in general: at the end, or ahead of an element; where there is room or none. -/
import Derived.Test.YtgomijhckmcfeaaBfIn
import Derived.Test.YtgomijhckmcfeaaReB
namespace Go.Proofs.Ytgomijhckmcfeaa
open Go.RowKit Go.Lib Go.Shelf
set_option linter.unusedVariables false
set_option linter.unusedSimpArgs false
theorem bfIns_list (xs : List Value) (i : Nat) (x : Value) (j : Nat) (u : Value) (hi : i ≤ xs.length) (h : (xs.take i ++ x :: xs.drop i)[j]? = some u) : (j < i ∧ xs[j]? = some u) ∨ (j = i ∧ u = x) ∨ (i < j ∧ xs[j - 1]? = some u) := by
  have hl : (xs.take i).length = i := by rw [List.length_take]; omega
  by_cases h1 : j < i
  · rw [List.getElem?_append_left (by omega), List.getElem?_take, if_pos h1] at h
    exact .inl ⟨h1, h⟩
  · rw [List.getElem?_append_right (by omega), hl] at h
    by_cases h2 : j = i
    · subst h2
      simp at h
      exact .inr (.inl ⟨rfl, h.symm⟩)
    · rw [show j - i = (j - i - 1) + 1 by omega, List.getElem?_cons_succ, List.getElem?_drop] at h
      rw [show i + (j - i - 1) = j - 1 by omega] at h
      exact .inr (.inr ⟨by omega, h⟩)
theorem bfIns_len (xs : List Value) (i : Nat) (x : Value) (hi : i ≤ xs.length) : (xs.take i ++ x :: xs.drop i).length = xs.length + 1 := by
  simp only [List.length_append, List.length_take, List.length_cons, List.length_drop]
  omega
set_option maxRecDepth 100000 in
set_option maxHeartbeats 1600000 in
theorem bfInsEnd {w : World} {base n vb : Nat} {v : Value} {xs : List Value} (h : OwnE w base 66 1 v n xs) (x : Value) (hn : n ≤ 1000000) (hv : w.heap[vb]? = some (.cells #[x] 66 (0, 0))) (h1v : x.oneCell' = true) (hbase : base ≤ w.heap.size) :
    Calls Try.prog 50 #[v, .int .i64 n, .slice (some ⟨vb, 0, none⟩) 1 1] w fun e w' => ∃ v', e = .returned v' ∧ OwnE w' base 66 1 v' (n + 1) (xs ++ [x]) ∧ w.grownBy w' v.ownBlock ∧ (v'.ownBlock = v.ownBlock ∨ ∃ k, v'.ownBlock = some k ∧ w.heap.size ≤ k) := by
  obtain ⟨i0, hi, hz0, hz1, hz2⟩ := info_parts bfInsInfo
  have hle : ∃ a c, v = .slice a n c ∧ n ≤ c ∧ c ≤ 9223372036854775807 := by
    rcases h.1.2 with ⟨rfl, rfl⟩ | ⟨g, off, cap, rfl, _, _, q, q2, _⟩
    · exact ⟨_, _, rfl, Nat.le_refl _, by omega⟩
    · exact ⟨_, _, rfl, q, by unfold maxLen at q2; omega⟩
  obtain ⟨a, c, rfl, hc1, hc2⟩ := hle
  have hvs : ∀ j u, [x][j]? = some u → w.cell? ((⟨vb, 0, none⟩ : Addr).add j) = some u := fun j u hj => by
    rw [addr_addG, cell_of_row w vb j _ _ (0, 0) hv, ← Array.getElem?_toList]
    exact hj
  have hmx : maxLen = 9223372036854775807 := rfl
  have HV := Lib.hid hvs
  have HO := Lib.hid h
  have b0 : (0 : Int) ≤ (n : Int) := by omega
  have b1 : (n : Int) ≤ (c : Int) := by omega
  clear hvs h hv
  go_enter Try.func50, Try.ntmps50
  cases a with
  | none =>
    go_wp2_with (at_builtin; refine append_atE _ rfl (.tmp 23) (.tmp 24) 49 rfl 66 i0 (.pointer none) 1 8 Try.underlying49 hi hz0 hz1 hz2 rfl (by decide) base (.slice none n c) n xs rfl HO.out ⟨vb, 0, none⟩ 1 1 [x] rfl rfl HV.out (fun u hu => by simp at hu; rw [hu]; exact h1v) ?m1 ?m2 hbase ?_)
    case m1 => omega
    case m2 => omega
    intro v' w' r1 r2 r3
    go_wp2
    go_ret
    exact ⟨v', rfl, r1, r2, r3⟩
  | some a =>
    obtain ⟨b, off, spot⟩ := a
    by_cases hcn : c = n
    · obtain rfl : n = c := by omega
      go_wp2_with (at_builtin; refine append_atE _ rfl (.tmp 23) (.tmp 24) 49 rfl 66 i0 (.pointer none) 1 8 Try.underlying49 hi hz0 hz1 hz2 rfl (by decide) base (.slice (some ⟨b, off, spot⟩) n n) n xs rfl HO.out ⟨vb, 0, none⟩ 1 1 [x] rfl rfl HV.out (fun u hu => by simp at hu; rw [hu]; exact h1v) ?m1 ?m2 hbase ?_)
      case m1 => omega
      case m2 => omega
      intro v' w' r1 r2 r3
      go_wp2
      go_ret
      exact ⟨v', rfl, r1, r2, r3⟩
    · go_wp2_with (at_builtin; refine append_atE _ rfl (.tmp 23) (.tmp 24) 49 rfl 66 i0 (.pointer none) 1 8 Try.underlying49 hi hz0 hz1 hz2 rfl (by decide) base (.slice (some ⟨b, off, spot⟩) n c) n xs rfl HO.out ⟨vb, 0, none⟩ 1 1 [x] rfl rfl HV.out (fun u hu => by simp at hu; rw [hu]; exact h1v) ?m1 ?m2 hbase ?_)
      case m1 => omega
      case m2 => omega
      intro v' w' r1 r2 r3
      go_wp2
      go_ret
      exact ⟨v', rfl, r1, r2, r3⟩
set_option maxHeartbeats 1600000 in
theorem bfInsert_any {w : World} {base n : Nat} {v : Value} {xs : List Value} (h : OwnE w base 66 1 v n xs) (i vb : Nat) (x : Value) (hi : i ≤ n) (hn : n ≤ 1000000) (hv : w.heap[vb]? = some (.cells #[x] 66 (0, 0))) (hvb : v.ownBlock ≠ some vb) (h1c : ∀ u ∈ xs, u.oneCell' = true) (h1v : x.oneCell' = true) (hbase : base ≤ w.heap.size) :
    Calls Try.prog 50 #[v, .int .i64 i, .slice (some ⟨vb, 0, none⟩) 1 1] w fun e w' => ∃ v', e = .returned v' ∧ OwnE w' base 66 1 v' (n + 1) (xs.take i ++ x :: xs.drop i) ∧ w.grownBy w' v.ownBlock ∧ (v'.ownBlock = v.ownBlock ∨ ∃ k, v'.ownBlock = some k ∧ w.heap.size ≤ k) := by
  have hxl : xs.length = n := by have := h.1.1; omega
  by_cases hin : i = n
  · subst hin
    have hq := bfInsEnd h x hn hv h1v hbase
    rw [List.take_of_length_le (by omega), List.drop_eq_nil_of_le (by omega)]
    exact hq
  · rcases h.1.2 with ⟨rfl, h0⟩ | ⟨b, off, cap, rfl, q1, q2, q3, q4, q5, q6⟩
    · omega
    · have hvb' : vb ≠ b := fun e => hvb (by rw [e]; rfl)
      obtain ⟨cs0, hty⟩ := h.2 b rfl
      by_cases hr : n + 1 ≤ cap
      · refine (bfInsShift h i vb x (by omega) hr hv hvb' h1c h1v).mono ?_
        rintro e w' ⟨rfl, rfl⟩
        have o1 := setCells_only b (xs.drop i) (off + (i + 1)) w.drew
        have o2 := setCells_only b [x] (off + i) (w.drew.setCells b (off + (i + 1)) (xs.drop i))
        have ho : Only b w ((w.drew.setCells b (off + (i + 1)) (xs.drop i)).setCells b (off + i) [x]) := ((Only.refl b w).drew.trans o1).trans o2
        refine ⟨_, rfl, ⟨⟨by rw [bfIns_len _ _ _ (by omega)]; omega, .inr ⟨b, off, cap, rfl, q1, by rw [ho.size]; exact q2, hr, q4, fun j hj => ⟨?_, ?_⟩, fun j u hu => ?_⟩⟩, fun k hk => ?_⟩, only_grown ho, .inl rfl⟩
        · exact World.isSome_setCells b _ _ _ _ (World.isSome_setCells b _ _ _ _ (q5 j (by omega)).1)
        · rw [World.frozen?_setCells, World.frozen?_setCells]
          exact (q5 j (by omega)).2
        · have hs1 : ∀ j, j < (xs.drop i).length → (w.drew.cell? ⟨b, off + (i + 1) + j, none⟩).isSome = true := fun j hj => by
            rw [List.length_drop] at hj
            rw [Nat.add_assoc]
            exact (q5 _ (by omega)).1
          have hs2 : ∀ j, j < [x].length → ((w.drew.setCells b (off + (i + 1)) (xs.drop i)).cell? ⟨b, off + i + j, none⟩).isSome = true := fun j hj => by
            refine World.isSome_setCells b _ _ _ _ ?_
            rw [Nat.add_assoc]
            simp at hj
            exact (q5 _ (by omega)).1
          rcases bfIns_list xs i x j u (by omega) hu with ⟨h1, h2⟩ | ⟨rfl, rfl⟩ | ⟨h1, h2⟩
          · rw [World.cell?_setCells_out b _ _ _ _ (fun _ _ => Or.inl (by show off + j < off + i; omega)), World.cell?_setCells_out b _ _ _ _ (fun _ _ => Or.inl (by show off + j < off + (i + 1); omega))]
            exact q6 j u h2
          · have := World.cell?_setCells_in b [u] (off + j) _ hs2 0 (by simp)
            simpa using this
          · rw [World.cell?_setCells_out b _ _ _ _ (fun _ _ => Or.inr (by show off + i + [x].length ≤ off + j; simp; omega))]
            have hlt := (List.getElem?_eq_some_iff.1 h2).1
            have := World.cell?_setCells_in b (xs.drop i) (off + (i + 1)) _ hs1 (j - (i + 1)) (by rw [List.length_drop]; omega)
            rw [show off + (i + 1) + (j - (i + 1)) = off + j by omega] at this
            rw [this, ← List.getElem?_eq_getElem, List.getElem?_drop, show i + (j - (i + 1)) = j - 1 by omega]
            exact h2
        · cases hk
          obtain ⟨cs1, hc1⟩ := setCells_type b 66 (xs.drop i) (off + (i + 1)) w.drew cs0 hty
          exact setCells_type b 66 [x] (off + i) _ cs1 hc1
      · refine (bfInsGrow h i vb x (by omega) (by omega) hn hv h1c h1v).mono ?_
        rintro e w' ⟨G, g1, g2, rfl, rfl⟩
        generalize hR : (xs.take i).toArray ++ Builtin.zeroCells (Value.pointer none).cells (n + 1 - i) ++ Builtin.zeroCells (Value.pointer none).cells (G - (n + 1)) = ROW
        have hRs : ROW.size = G := by
          rw [← hR]
          simp [Builtin.zeroCells, Value.cells]
          omega
        have hR1 : ∀ j u, j < i → xs[j]? = some u → ROW[j]? = some u := fun j u hj hu => by
          rw [← hR, Array.append_assoc, Array.getElem?_append_left (by simp; omega)]
          simp [hj]
          exact hu
        have hW0 : ((w.alloc (.cells ROW 66)).drew).heap[w.heap.size]? = some (.cells ROW 66 (0, 0)) := heap_alloc_new w _
        have hB0 : Below w.heap.size w (w.alloc (.cells ROW 66)).drew := ((Below.refl _ _).alloc (Nat.le_refl _) _).drew
        generalize (w.alloc (.cells ROW 66)).drew = w0 at hW0 hB0 ⊢
        generalize hN : w.heap.size = N at hW0 hB0 ⊢
        have o1 := setCells_only N [x] i w0
        obtain ⟨cs1, hc1⟩ := setCells_type N 66 [x] i w0 ROW hW0
        have o2 := setCells_only N (xs.drop i) (i + 1) (w0.setCells N i [x]).drew
        have hlt := lt_of_block hW0
        have hal : ∀ j, j < G → (w0.cell? ⟨N, j, none⟩).isSome = true := fun j hj => by
          rw [cell_of_row w0 N j _ _ (0, 0) hW0, Array.getElem?_eq_getElem (by omega)]; rfl
        have hfr : ∀ j, w0.frozen? ⟨N, j, none⟩ = false := fun j => by simp [World.frozen?, hW0]
        have ho : Only N w0 ((w0.setCells N i [x]).drew.setCells N (i + 1) (xs.drop i)) := (o1.trans (Only.refl N _).drew).trans o2
        have hb9 : Below N w ((w0.setCells N i [x]).drew.setCells N (i + 1) (xs.drop i)) := hB0.trans (ho.below (Nat.le_refl _))
        refine ⟨_, rfl, ⟨⟨by rw [bfIns_len _ _ _ (by omega)]; omega, .inr ⟨N, 0, G, rfl, by omega, by rw [ho.size]; exact hlt, g1, g2, fun j hj => ⟨?_, ?_⟩, fun j u hu => ?_⟩⟩, fun k hk => ?_⟩, ⟨hb9.os, hb9.tape, hb9.output, hb9.size, fun k hk _ => hb9.block k (by omega)⟩, .inr ⟨N, rfl, by omega⟩⟩
        · rw [Nat.zero_add]
          exact World.isSome_setCells N _ _ _ _ (World.isSome_setCells N _ _ _ _ (hal j (by omega)))
        · rw [World.frozen?_setCells]
          show (w0.setCells N i [x]).frozen? _ = false
          rw [World.frozen?_setCells]
          exact hfr _
        · rw [Nat.zero_add]
          have hs1 : ∀ j, j < [x].length → (w0.cell? ⟨N, i + j, none⟩).isSome = true := fun j hj => by
            simp at hj
            exact hal _ (by omega)
          have hs2 : ∀ j, j < (xs.drop i).length → ((w0.setCells N i [x]).drew.cell? ⟨N, i + 1 + j, none⟩).isSome = true := fun j hj => by
            rw [List.length_drop] at hj
            exact World.isSome_setCells N _ _ _ _ (hal _ (by omega))
          rcases bfIns_list xs i x j u (by omega) hu with ⟨h1, h2⟩ | ⟨rfl, rfl⟩ | ⟨h1, h2⟩
          · rw [World.cell?_setCells_out N _ _ _ _ (fun _ _ => Or.inl (by show j < i + 1; omega))]
            show (w0.setCells N i [x]).cell? _ = _
            rw [World.cell?_setCells_out N _ _ _ _ (fun _ _ => Or.inl (by show j < i; omega)), cell_of_row w0 N j _ _ (0, 0) hW0]
            exact hR1 j u h1 h2
          · rw [World.cell?_setCells_out N _ _ _ _ (fun _ _ => Or.inl (by show j < j + 1; omega))]
            show (w0.setCells N j [u]).cell? _ = _
            have := World.cell?_setCells_in N [u] j _ hs1 0 (by simp)
            simpa using this
          · have hlt2 := (List.getElem?_eq_some_iff.1 h2).1
            have := World.cell?_setCells_in N (xs.drop i) (i + 1) _ hs2 (j - (i + 1)) (by rw [List.length_drop]; omega)
            rw [show i + 1 + (j - (i + 1)) = j by omega] at this
            rw [this, ← List.getElem?_eq_getElem, List.getElem?_drop, show i + (j - (i + 1)) = j - 1 by omega]
            exact h2
        · cases hk
          exact setCells_type N 66 (xs.drop i) (i + 1) _ cs1 hc1
end Go.Proofs.Ytgomijhckmcfeaa
