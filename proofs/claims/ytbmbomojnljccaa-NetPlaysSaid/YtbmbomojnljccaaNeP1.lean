/- net: slices.Clone at texts, All. -/
import Derived.Test.YtbmbomojnljccaaNeI
namespace Go.Proofs.Ytbmbomojnljccaa
open Go.RowKit Go.Maps
set_option linter.unusedVariables false
set_option linter.unusedSimpArgs false
set_option maxRecDepth 100000 in
set_option maxHeartbeats 1600000 in
theorem neSClone_any {w : World} {b : Nat} {v : Value} {n : Nat} {l : List ByteArray} (h : OwnE w b 9 1 v n (neV l)) (hn : n ≤ 1073741824) : Calls Try.prog 32 #[v] w fun e w' => ∃ v', e = .returned v' ∧ OwnE w' w.heap.size 9 1 v' n (neV l) ∧ (n = 0 → v = .slice none 0 0 → v' = .slice none 0 0) ∧ Below w.heap.size w w' := by
  obtain ⟨i0, hi, hz0, hz1, hz2⟩ := info_parts info_strN
  have hl : (neV l).length = n * 1 := h.1.1
  rcases h.1.2 with ⟨rfl, rfl⟩ | ⟨g, off, cap, rfl, _⟩
  · obtain rfl : l = [] := List.eq_nil_of_length_eq_zero (by rw [neV_len] at hl; omega)
    clear h
    have heq := fun W => Lib.run_eql_slice_nil (P := Try.prog) W 56 9 none 0 0 0 0 Try.underlying56
    go_enter Try.func32, Try.ntmps32
    go_wp2_with fail
    go_ret
    exact ⟨_, rfl, ownE_nil _ _ _ _, fun _ _ => rfl, Below.refl _ _⟩
  · have hal : Below w.heap.size w (w.alloc (.cells #[] 9)) := (Below.refl _ _).alloc (Nat.le_refl _) _
    have hE : OwnE (w.alloc (.cells #[] 9)) w.heap.size 9 1 (.slice (some ⟨w.heap.size, 0, none⟩) 0 0) 0 [] := ownE_of (World.ownsRow_lit w #[] 0 (Nat.le_refl _) (Nat.zero_le _) rfl)
    obtain ⟨xa, xc, e, hnn, hcc, _⟩ := (h.later hal).srcG
    cases e
    have HC3 := Lib.hid hcc
    have HN3 := Lib.hid hnn
    have H13 := Lib.hid (neV_one l)
    have HL3 := Lib.hid hl
    clear h hcc hnn hl
    have heq := fun W => Lib.run_eql_slice_nil (P := Try.prog) W 56 9 (some ⟨g, off, none⟩) n cap 0 0 Try.underlying56
    go_enter Try.func32, Try.ntmps32
    go_wp2_with (at_builtin; refine append_anyG _ rfl (.tmp 5) (.tmp 6) 56 rfl 9 i0 (.string ⟨#[]⟩) 1 16 Try.underlying56 hi hz0 hz1 hz2 rfl (by decide) w.heap.size _ 0 [] rfl hE (some ⟨g, off, none⟩) n cap (neV l) rfl HL3.out HN3.out HC3.out H13.out ?m1 ?m2 (by simp) ?_)
    case m1 => unfold maxLen; omega
    case m2 => omega
    intro v3 w3 hO3 hg3 _
    have hk3 : Below w.heap.size w w3 := hal.grown hg3 (by simp) (fun k hk => by cases hk; exact Nat.le_refl _)
    go_wp2_with fail
    go_ret
    exact ⟨_, rfl, by simpa using hO3, (fun _ h => by cases h), hk3⟩
theorem neAll_any {w : World} {base gn n : Nat} {x : NE} (h : NIn w base gn n x) {a p : Int} (hk : wf2 a p) : Calls Try.prog 29 #[.pointer (some ⟨gn, 0, none⟩), .int .i64 a, .int .i64 p] w fun e w' => ∃ v', e = .returned v' ∧ OwnE w' w.heap.size 9 1 v' (x.G a p).length (neV (x.G a p)) ∧ Below w.heap.size w w' := by
  obtain ⟨_, _, _, _, _, _, _, _, _⟩ := h.cells
  have hlk := h.look hk
  have HC := Lib.hid (neSClone_any (h.own a p) (by have := h.ln a p; omega))
  clear h
  go_enter Try.func29, Try.ntmps29
  go_wp2_with fail
  refine HC.out.mono ?_
  rintro e w' ⟨v', rfl, h1, _, h2⟩
  go_wp2_with fail
  go_ret
  exact ⟨v', rfl, h1, h2⟩
end Go.Proofs.Ytbmbomojnljccaa
