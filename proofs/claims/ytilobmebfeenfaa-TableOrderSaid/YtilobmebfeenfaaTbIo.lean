/- table: slices.Insert of one entry, in general: at the end, or ahead of an element; where there is room or none. -/
import Derived.Test.YtilobmebfeenfaaTbIn
import Derived.Test.YtilobmebfeenfaaReB
namespace Go.Proofs.Ytilobmebfeenfaa
open Go.RowKit Go.Lib Go.Shelf
set_option linter.unusedVariables false
set_option linter.unusedSimpArgs false
theorem tbIns_list (xs X : List Value) (k : Nat) (hX : X.length = 3) (j : Nat) (u : Value) (hk : k ≤ xs.length) (h : (xs.take k ++ X ++ xs.drop k)[j]? = some u) : (j < k ∧ xs[j]? = some u) ∨ (∃ q, q < 3 ∧ j = k + q ∧ X[q]? = some u) ∨ (k + 3 ≤ j ∧ xs[j - 3]? = some u) := by
  have hl : (xs.take k).length = k := by rw [List.length_take]; omega
  rw [List.append_assoc] at h
  by_cases h1 : j < k
  · rw [List.getElem?_append_left (by omega), List.getElem?_take, if_pos h1] at h
    exact .inl ⟨h1, h⟩
  · rw [List.getElem?_append_right (by omega), hl] at h
    by_cases h2 : j < k + 3
    · rw [List.getElem?_append_left (by omega)] at h
      exact .inr (.inl ⟨j - k, by omega, by omega, h⟩)
    · rw [List.getElem?_append_right (by omega), hX, List.getElem?_drop] at h
      rw [show k + (j - k - 3) = j - 3 by omega] at h
      exact .inr (.inr ⟨by omega, h⟩)
theorem tbIns_len (xs X : List Value) (k : Nat) (hX : X.length = 3) (hk : k ≤ xs.length) : (xs.take k ++ X ++ xs.drop k).length = xs.length + 3 := by
  simp only [List.length_append, List.length_take, List.length_drop]
  omega
set_option maxRecDepth 100000 in
set_option maxHeartbeats 1600000 in
theorem tbInsEnd {w : World} {base n vb : Nat} {v : Value} {xs : List Value} (h : OwnE w base 70 3 v n xs) (X : List Value) (hX : X.length = 3) (hn : n ≤ 1000000) (hv : w.heap[vb]? = some (.cells X.toArray 70 (0, 0))) (h1v : ∀ u ∈ X, u.oneCell' = true) (hbase : base ≤ w.heap.size) :
    Calls Try.prog 52 #[v, .int .i64 n, .slice (some ⟨vb, 0, none⟩) 1 1] w fun e w' => ∃ v', e = .returned v' ∧ OwnE w' base 70 3 v' (n + 1) (xs ++ X) ∧ w.grownBy w' v.ownBlock ∧ (v'.ownBlock = v.ownBlock ∨ ∃ k, v'.ownBlock = some k ∧ w.heap.size ≤ k) := by
  obtain ⟨i0, hi, hz0, hz1, hz2⟩ := info_parts tbInsInfo
  have hle : ∃ a c, v = .slice a n c ∧ n ≤ c ∧ c ≤ 9223372036854775807 := by
    rcases h.1.2 with ⟨rfl, rfl⟩ | ⟨g, off, cap, rfl, _, _, q, q2, _⟩
    · exact ⟨_, _, rfl, Nat.le_refl _, by omega⟩
    · exact ⟨_, _, rfl, q, by unfold maxLen at q2; omega⟩
  obtain ⟨a, c, rfl, hc1, hc2⟩ := hle
  have hvs : ∀ j u, X[j]? = some u → w.cell? ((⟨vb, 0, none⟩ : Addr).add j) = some u := fun j u hj => by
    rw [addr_addG, cell_of_row w vb j _ _ (0, 0) hv, List.getElem?_toArray]
    exact hj
  have hmx : maxLen = 9223372036854775807 := rfl
  have HV := Lib.hid hvs
  have HO := Lib.hid h
  have b0 : (0 : Int) ≤ (n : Int) := by omega
  have b1 : (n : Int) ≤ (c : Int) := by omega
  clear hvs h hv
  go_enter Try.func52, Try.ntmps52
  cases a with
  | none =>
    go_wp2_with (at_builtin; refine append_atE _ rfl (.tmp 23) (.tmp 24) 68 rfl 70 i0 (.agg #[.int .i64 0, .bool false, .int .i64 0]) 3 24 Try.underlying68 hi hz0 hz1 hz2 rfl (by decide) base (.slice none n c) n xs rfl HO.out ⟨vb, 0, none⟩ 1 1 X rfl (by rw [hX]) HV.out h1v ?m1 ?m2 hbase ?_)
    case m1 => omega
    case m2 => omega
    intro v' w' r1 r2 r3
    go_wp2
    go_ret
    exact ⟨v', rfl, r1, r2, r3⟩
  | some a =>
    obtain ⟨b, off, spot⟩ := a
    by_cases hcn : c = n
    · obtain rfl : n = c := by omega
      go_wp2_with (at_builtin; refine append_atE _ rfl (.tmp 23) (.tmp 24) 68 rfl 70 i0 (.agg #[.int .i64 0, .bool false, .int .i64 0]) 3 24 Try.underlying68 hi hz0 hz1 hz2 rfl (by decide) base (.slice (some ⟨b, off, spot⟩) n n) n xs rfl HO.out ⟨vb, 0, none⟩ 1 1 X rfl (by rw [hX]) HV.out h1v ?m1 ?m2 hbase ?_)
      case m1 => omega
      case m2 => omega
      intro v' w' r1 r2 r3
      go_wp2
      go_ret
      exact ⟨v', rfl, r1, r2, r3⟩
    · go_wp2_with (at_builtin; refine append_atE _ rfl (.tmp 23) (.tmp 24) 68 rfl 70 i0 (.agg #[.int .i64 0, .bool false, .int .i64 0]) 3 24 Try.underlying68 hi hz0 hz1 hz2 rfl (by decide) base (.slice (some ⟨b, off, spot⟩) n c) n xs rfl HO.out ⟨vb, 0, none⟩ 1 1 X rfl (by rw [hX]) HV.out h1v ?m1 ?m2 hbase ?_)
      case m1 => omega
      case m2 => omega
      intro v' w' r1 r2 r3
      go_wp2
      go_ret
      exact ⟨v', rfl, r1, r2, r3⟩
set_option maxHeartbeats 1600000 in
theorem tbInsert_any {w : World} {base n : Nat} {v : Value} {xs : List Value} (h : OwnE w base 70 3 v n xs) (i vb : Nat) (X : List Value) (hX : X.length = 3) (hi : i ≤ n) (hn : n ≤ 1000000) (hv : w.heap[vb]? = some (.cells X.toArray 70 (0, 0))) (hvb : v.ownBlock ≠ some vb) (h1c : ∀ u ∈ xs, u.oneCell' = true) (h1v : ∀ u ∈ X, u.oneCell' = true) (hbase : base ≤ w.heap.size) :
    Calls Try.prog 52 #[v, .int .i64 i, .slice (some ⟨vb, 0, none⟩) 1 1] w fun e w' => ∃ v', e = .returned v' ∧ OwnE w' base 70 3 v' (n + 1) (xs.take (i * 3) ++ X ++ xs.drop (i * 3)) ∧ w.grownBy w' v.ownBlock ∧ (v'.ownBlock = v.ownBlock ∨ ∃ k, v'.ownBlock = some k ∧ w.heap.size ≤ k) := by
  have hxl : xs.length = n * 3 := h.1.1
  by_cases hin : i = n
  · subst hin
    have hq := tbInsEnd h X hX hn hv h1v hbase
    rw [List.take_of_length_le (by omega), List.drop_eq_nil_of_le (by omega), List.append_nil]
    exact hq
  · rcases h.1.2 with ⟨rfl, h0⟩ | ⟨b, off, cap, rfl, q1, q2, q3, q4, q5, q6⟩
    · omega
    · have hvb' : vb ≠ b := fun e => hvb (by rw [e]; rfl)
      obtain ⟨cs0, hty⟩ := h.2 b rfl
      by_cases hr : n + 1 ≤ cap
      · refine (tbInsShift h i vb X hX (by omega) hr hv hvb' h1c h1v).mono ?_
        rintro e w' ⟨rfl, rfl⟩
        have o1 := setCells_only b (xs.drop (i * 3)) (off + (i + 1) * 3) w.drew
        have o2 := setCells_only b X (off + i * 3) (w.drew.setCells b (off + (i + 1) * 3) (xs.drop (i * 3)))
        have ho : Only b w ((w.drew.setCells b (off + (i + 1) * 3) (xs.drop (i * 3))).setCells b (off + i * 3) X) := ((Only.refl b w).drew.trans o1).trans o2
        refine ⟨_, rfl, ⟨⟨by rw [tbIns_len _ _ _ hX (by omega)]; omega, .inr ⟨b, off, cap, rfl, q1, by rw [ho.size]; exact q2, hr, q4, fun j hj => ⟨?_, ?_⟩, fun j u hu => ?_⟩⟩, fun k hk => ?_⟩, only_grown ho, .inl rfl⟩
        · exact World.isSome_setCells b _ _ _ _ (World.isSome_setCells b _ _ _ _ (q5 j (by omega)).1)
        · rw [World.frozen?_setCells, World.frozen?_setCells]
          exact (q5 j (by omega)).2
        · have hs1 : ∀ j, j < (xs.drop (i * 3)).length → (w.drew.cell? ⟨b, off + (i + 1) * 3 + j, none⟩).isSome = true := fun j hj => by
            rw [List.length_drop] at hj
            rw [Nat.add_assoc]
            exact (q5 _ (by omega)).1
          have hs2 : ∀ j, j < X.length → ((w.drew.setCells b (off + (i + 1) * 3) (xs.drop (i * 3))).cell? ⟨b, off + i * 3 + j, none⟩).isSome = true := fun j hj => by
            refine World.isSome_setCells b _ _ _ _ ?_
            rw [Nat.add_assoc]
            exact (q5 _ (by omega)).1
          rcases tbIns_list xs X (i * 3) hX j u (by omega) hu with ⟨h1, h2⟩ | ⟨q, hq, rfl, h2⟩ | ⟨h1, h2⟩
          · rw [World.cell?_setCells_out b _ _ _ _ (fun _ _ => Or.inl (by show off + j < off + i * 3; omega)), World.cell?_setCells_out b _ _ _ _ (fun _ _ => Or.inl (by show off + j < off + (i + 1) * 3; omega))]
            exact q6 j u h2
          · have := World.cell?_setCells_in b X (off + i * 3) _ hs2 q (by omega)
            rw [Nat.add_assoc] at this
            rw [this, ← List.getElem?_eq_getElem]
            exact h2
          · rw [World.cell?_setCells_out b _ _ _ _ (fun _ _ => Or.inr (by show off + i * 3 + X.length ≤ off + j; omega))]
            have hlt := (List.getElem?_eq_some_iff.1 h2).1
            have := World.cell?_setCells_in b (xs.drop (i * 3)) (off + (i + 1) * 3) _ hs1 (j - (i + 1) * 3) (by rw [List.length_drop]; omega)
            rw [show off + (i + 1) * 3 + (j - (i + 1) * 3) = off + j by omega] at this
            rw [this, ← List.getElem?_eq_getElem, List.getElem?_drop, show i * 3 + (j - (i + 1) * 3) = j - 3 by omega]
            exact h2
        · cases hk
          obtain ⟨cs1, hc1⟩ := setCells_type b 70 (xs.drop (i * 3)) (off + (i + 1) * 3) w.drew cs0 hty
          exact setCells_type b 70 X (off + i * 3) _ cs1 hc1
      · refine (tbInsGrow h i vb X hX (by omega) (by omega) hn hv h1c h1v).mono ?_
        rintro e w' ⟨G, g1, g2, rfl, rfl⟩
        generalize hR : (xs.take (i * 3)).toArray ++ Builtin.zeroCells (Value.agg #[.int .i64 0, .bool false, .int .i64 0]).cells (n + 1 - i) ++ Builtin.zeroCells (Value.agg #[.int .i64 0, .bool false, .int .i64 0]).cells (G - (n + 1)) = ROW
        have hRs : ROW.size = G * 3 := by
          rw [← hR]
          simp only [Array.size_append, size_zeroCells, List.size_toArray, List.length_take, hxl, Value.cells]
          simp
          omega
        have hR1 : ∀ j u, j < i * 3 → xs[j]? = some u → ROW[j]? = some u := fun j u hj hu => by
          rw [← hR, Array.append_assoc, Array.getElem?_append_left (by simp; omega)]
          simp [hj]
          exact hu
        have hW0 : ((w.alloc (.cells ROW 70)).drew).heap[w.heap.size]? = some (.cells ROW 70 (0, 0)) := heap_alloc_new w _
        have hB0 : Below w.heap.size w (w.alloc (.cells ROW 70)).drew := ((Below.refl _ _).alloc (Nat.le_refl _) _).drew
        generalize (w.alloc (.cells ROW 70)).drew = w0 at hW0 hB0 ⊢
        generalize hN : w.heap.size = N at hW0 hB0 ⊢
        have o1 := setCells_only N X (i * 3) w0
        obtain ⟨cs1, hc1⟩ := setCells_type N 70 X (i * 3) w0 ROW hW0
        have o2 := setCells_only N (xs.drop (i * 3)) ((i + 1) * 3) (w0.setCells N (i * 3) X).drew
        have hlt := lt_of_block hW0
        have hal : ∀ j, j < G * 3 → (w0.cell? ⟨N, j, none⟩).isSome = true := fun j hj => by
          rw [cell_of_row w0 N j _ _ (0, 0) hW0, Array.getElem?_eq_getElem (by omega)]; rfl
        have hfr : ∀ j, w0.frozen? ⟨N, j, none⟩ = false := fun j => by simp [World.frozen?, hW0]
        have ho : Only N w0 ((w0.setCells N (i * 3) X).drew.setCells N ((i + 1) * 3) (xs.drop (i * 3))) := (o1.trans (Only.refl N _).drew).trans o2
        have hb9 : Below N w ((w0.setCells N (i * 3) X).drew.setCells N ((i + 1) * 3) (xs.drop (i * 3))) := hB0.trans (ho.below (Nat.le_refl _))
        refine ⟨_, rfl, ⟨⟨by rw [tbIns_len _ _ _ hX (by omega)]; omega, .inr ⟨N, 0, G, rfl, by omega, by rw [ho.size]; exact hlt, g1, g2, fun j hj => ⟨?_, ?_⟩, fun j u hu => ?_⟩⟩, fun k hk => ?_⟩, ⟨hb9.os, hb9.tape, hb9.output, hb9.size, fun k hk _ => hb9.block k (by omega)⟩, .inr ⟨N, rfl, by omega⟩⟩
        · rw [Nat.zero_add]
          exact World.isSome_setCells N _ _ _ _ (World.isSome_setCells N _ _ _ _ (hal j (by omega)))
        · rw [World.frozen?_setCells]
          show (w0.setCells N (i * 3) X).frozen? _ = false
          rw [World.frozen?_setCells]
          exact hfr _
        · rw [Nat.zero_add]
          have hs1 : ∀ j, j < X.length → (w0.cell? ⟨N, i * 3 + j, none⟩).isSome = true := fun j hj => by
            exact hal _ (by omega)
          have hs2 : ∀ j, j < (xs.drop (i * 3)).length → ((w0.setCells N (i * 3) X).drew.cell? ⟨N, (i + 1) * 3 + j, none⟩).isSome = true := fun j hj => by
            rw [List.length_drop] at hj
            exact World.isSome_setCells N _ _ _ _ (hal _ (by omega))
          rcases tbIns_list xs X (i * 3) hX j u (by omega) hu with ⟨h1, h2⟩ | ⟨q, hq, rfl, h2⟩ | ⟨h1, h2⟩
          · rw [World.cell?_setCells_out N _ _ _ _ (fun _ _ => Or.inl (by show j < (i + 1) * 3; omega))]
            show (w0.setCells N (i * 3) X).cell? _ = _
            rw [World.cell?_setCells_out N _ _ _ _ (fun _ _ => Or.inl (by show j < i * 3; omega)), cell_of_row w0 N j _ _ (0, 0) hW0]
            exact hR1 j u h1 h2
          · rw [World.cell?_setCells_out N _ _ _ _ (fun _ _ => Or.inl (by show i * 3 + q < (i + 1) * 3; omega))]
            show (w0.setCells N (i * 3) X).cell? _ = _
            have := World.cell?_setCells_in N X (i * 3) _ hs1 q (by omega)
            rw [this, ← List.getElem?_eq_getElem]
            exact h2
          · have hlt2 := (List.getElem?_eq_some_iff.1 h2).1
            have := World.cell?_setCells_in N (xs.drop (i * 3)) ((i + 1) * 3) _ hs2 (j - (i + 1) * 3) (by rw [List.length_drop]; omega)
            rw [show (i + 1) * 3 + (j - (i + 1) * 3) = j by omega] at this
            rw [this, ← List.getElem?_eq_getElem, List.getElem?_drop, show i * 3 + (j - (i + 1) * 3) = j - 3 by omega]
            exact h2
        · cases hk
          exact setCells_type N 70 (xs.drop (i * 3)) ((i + 1) * 3) _ cs1 hc1
end Go.Proofs.Ytilobmebfeenfaa
