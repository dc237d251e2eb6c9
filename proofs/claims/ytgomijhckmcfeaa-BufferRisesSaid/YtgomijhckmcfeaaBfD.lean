/- buffer: leave. -/
import Derived.Test.YtgomijhckmcfeaaBfC
import Derived.Deep.RegionLaw
namespace Go.Proofs.Ytgomijhckmcfeaa
open Go.RowKit
set_option linter.unusedVariables false
set_option linter.unusedSimpArgs false
theorem bfDrop (x : BF) (l : List BF) : (bfV (x :: l)).drop 1 = bfV l := by simp [bfV]
set_option maxRecDepth 100000 in
set_option maxHeartbeats 3200000 in
theorem bfLeave_any {w : World} {base gb : Nat} {s : BS} {v : Value} {x : BF} {l : List BF} (h : BIn w base gb s v (x :: l)) (hp : bfParts (x :: l) ≤ 1099511627776) (hby : bfBytes (x :: l) ≤ 1099511627776) :
    Calls Try.prog 28 #[.pointer (some ⟨gb, 0, none⟩)] w fun e w' => e = .returned (.tuple #[]) ∧ (∃ v', BIn w' base gb { s with least := x.t + 1 } v' l ∧ BKeep gb v (x :: l) w w' v' l) ∧ Below base w w' := by
  obtain ⟨ga, off, c, rfl, hlc, hcm, hcell, hfz⟩ := bfV_at h.own 0 x rfl
  rw [Nat.add_zero] at hcell hfz
  have hHX : ∀ W : World, Only gb w W → FIn W base x.g x.t x.c x.f x.m x.P := fun W ho => by
    obtain ⟨⟨h1, _⟩, h2⟩ := h.apart x List.mem_cons_self
    exact (h.fr.fr x List.mem_cons_self).same (ho.block _ h1) (fun b hb => ho.block _ (h2 b hb).1)
  have hgg : ga ≠ gb := fun e => h.row_ne (by rw [← e]; rfl)
  have hown := h.own
  have hfin : ∀ (W : World) (v' : Value), (BS.at { s with least := x.t + 1 } W gb (bfParts l) (bfBytes l) v') → OwnE W base 66 1 v' l.length (bfV l) → v'.ownBlock = some ga → (∀ k, k ≠ gb → k ≠ ga → W.heap[k]? = w.heap[k]?) → w.heap.size ≤ W.heap.size → W.heap.size = w.heap.size → BIn W base gb { s with least := x.t + 1 } v' l ∧ BKeep gb (.slice (some ⟨ga, off, none⟩) (x :: l).length c) (x :: l) w W v' l := fun W v' ha ho hb hk hs hsz => by
    refine ⟨⟨h.bs, ha, ho, h.fr.tail.same (fun y hy => ?_), h.up.tail⟩, ⟨hs, fun k hkl hf => hk k (fun e => hf (.inl e)) (fun e => hf (.inr (.inl (by rw [e]; rfl)))), fun k hf => ?_⟩⟩
    · obtain ⟨⟨h1, h2⟩, h3⟩ := h.apart y (List.mem_cons_of_mem _ hy)
      exact ⟨hk _ h1 (fun e => h2 (by rw [e]; rfl)), fun b hb => hk b (h3 b hb).1 (fun e => (h3 b hb).2 (by rw [e]; rfl))⟩
    · rcases hf with e | e | ⟨y, hy, e⟩
      · exact .inl (.inl e)
      · exact .inl (.inr (.inl (by rw [hb] at e; exact e)))
      · exact .inl (.inr (.inr ⟨y, List.mem_cons_of_mem _ hy, e⟩))
  have hbs := h.bs
  have hbg : base ≤ ga := (hown.1.lt ga rfl).1
  have hga : ga < w.heap.size := (hown.1.lt ga rfl).2
  have h10 := h.at10
  obtain ⟨t0, t1⟩ : 0 ≤ x.t ∧ x.t ≤ 4294967295 := ⟨by have := h.up.lo x List.mem_cons_self; have := h.up.l0; omega, h.up.tb x List.mem_cons_self⟩
  have hpe := bfParts_cons x l
  have hbe := bfBytes_cons x l
  obtain ⟨cf, cp, cb, least, pl, dr, ev⟩ := s
  unfold BS.at at h10 hfin
  simp only at h10 hfin
  generalize bfParts (x :: l) = pA at *
  generalize bfBytes (x :: l) = bA at *
  have hw1 : IntKind.i64.wrap ((pA : Int) - (spH x.P : Int)) = (bfParts l : Int) := by rw [IntKind.wrap_i64]; omega
  have hw2 : IntKind.i64.wrap ((bA : Int) - (spB x.P : Int)) = (bfBytes l : Int) := by rw [IntKind.wrap_i64]; omega
  have hw3 : IntKind.i64.wrap (x.t + 1) = x.t + 1 := by rw [IntKind.wrap_i64]; omega
  have hw4 : IntKind.i64.wrap x.t = x.t := by rw [IntKind.wrap_i64]; omega
  have HFIN := Lib.hid hfin
  have HHX := Lib.hid hHX
  have hlen : (x :: l).length = l.length + 1 := rfl
  have hc0 : (1 : Int) ≤ ((x :: l).length : Int) := by rw [hlen]; omega
  have hi0 : (0 : Int) < ((x :: l).length : Int) := by rw [hlen]; omega
  have HLEN := Lib.hid hlen
  generalize bfParts l = pB at *
  generalize bfBytes l = bB at *
  generalize (x :: l).length = n at *
  clear hfin hHX hp hby hpe hbe hlen h
  obtain ⟨_, _, _, _, _, _, _, _, _, _⟩ := AtS.cells10 h10
  have hf0 : ∀ i, w.frozen? ⟨gb, i, none⟩ = false := fun i => AtS.free h10 i
  go_enter Try.func28, Try.ntmps28
  go_upto_region 1 with fail
  go_cut [] (fun wx => AtS 51 wx gb #[.int .i64 cf, .int .i64 cp, .int .i64 cb, .int .i64 pB, .int .i64 bA, .int .i64 least, .int .i64 pl, .int .i64 dr, .int .i64 ev, .slice (some ⟨ga, off, none⟩) n c] ∧ Only gb w wx)
  case first =>
    have hfx := HHX.out w.drew (Only.refl _ _).drew
    obtain ⟨_, _, _, _, _, _, _, _, _, _⟩ := AtS.cells10 (AtS.drew h10)
    go_region_law (first | (go_simp; go_at_call 41; refine (spHave_q hfx).mono ?_; rintro e w' ⟨rfl, hq⟩; subst hq))
    all_goals
      go_wp2_with fail
      go_meet
      first
      | with_reducible exact ⟨at10_set3 (AtS.drew h10) _, (Only.refl gb w).drew.setCell 3 _⟩
      | with_reducible exact ⟨AtS.drew (at10_set3 h10 _), ((Only.refl gb w).setCell 3 _).drew⟩
      | exact ⟨at10_set3 h10 _, ((Only.refl gb w).setCell 3 _).drew⟩
  case rest =>
  obtain ⟨h11, ho1⟩ := hcut
  rename World => w1
  clear h10
  obtain ⟨_, _, _, _, _, _, _, _, _, _⟩ := AtS.cells10 h11
  have hf1 : ∀ i, w1.frozen? ⟨gb, i, none⟩ = false := fun i => AtS.free h11 i
  go_upto_region 2 with fail
  go_cut [] (fun wx => AtS 51 wx gb #[.int .i64 cf, .int .i64 cp, .int .i64 cb, .int .i64 pB, .int .i64 bB, .int .i64 least, .int .i64 pl, .int .i64 dr, .int .i64 ev, .slice (some ⟨ga, off, none⟩) n c] ∧ Only gb w wx)
  case first =>
    have hfx := HHX.out w1.drew ho1.drew
    obtain ⟨_, _, _, _, _, _, _, _, _, _⟩ := AtS.cells10 (AtS.drew h11)
    go_region_law (first | (go_simp; go_at_call 46; refine (spBytes_q hfx).mono ?_; rintro e w' ⟨rfl, hq⟩; subst hq))
    all_goals
      go_wp2_with fail
      go_meet
      first
      | with_reducible exact ⟨at10_set4 (AtS.drew h11) _, ho1.drew.setCell 4 _⟩
      | with_reducible exact ⟨AtS.drew (at10_set4 h11 _), (ho1.setCell 4 _).drew⟩
      | exact ⟨at10_set4 h11 _, (ho1.setCell 4 _).drew⟩
  case rest =>
  obtain ⟨h12, ho2⟩ := hcut
  rename World => w2
  clear h11 ho1 hf1
  have hf2 : ∀ i, w2.frozen? ⟨gb, i, none⟩ = false := fun i => AtS.free h12 i
  obtain ⟨_, _, _, _, _, _, _, _, _, _⟩ := AtS.cells10 h12
  have HTM := Lib.hid (spTime_q (HHX.out w2 ho2))
  go_upto_region 3 with fail
  go_wp2_with fail
  refine HTM.out.mono ?_
  rintro e w' ⟨rfl, hq⟩
  subst hq
  go_upto_region 4 with fail
  have h13 := at10_set5 h12 (.int .i64 (x.t + 1))
  have ho3 := ho2.setCell 5 (.int .i64 (x.t + 1))
  generalize w'.setCell ⟨gb, 5, none⟩ (.int .i64 (x.t + 1)) = w3 at h13 ho3 ⊢
  clear h12 ho2 hf2
  obtain ⟨_, _, _, _, _, _, _, _, _, _⟩ := AtS.cells10 h13
  have hf3 : ∀ i, w3.frozen? ⟨gb, i, none⟩ = false := fun i => AtS.free h13 i
  have hb3 : w3.heap[ga]? = w.heap[ga]? := ho3.block ga hgg
  have hown3 : OwnE w3 base 66 1 (.slice (some ⟨ga, off, none⟩) n c) n (bfV (x :: l)) := hown.keep (by rw [ho3.size]; exact Nat.le_refl _) (fun k cs hk _ => by cases hk; exact hb3)
  have hcell3 : w3.cell? ⟨ga, off, none⟩ = some (.pointer (some ⟨x.g, 0, none⟩)) := by rw [← hcell]; unfold World.cell?; rw [hb3]
  have hfz3 : w3.frozen? ⟨ga, off, none⟩ = false := by rw [← hfz]; unfold World.frozen?; rw [hb3]
  have h14 : AtS 51 (w3.setCell ⟨ga, off, none⟩ (.pointer none)) gb _ := AtS.only h13 hgg.symm ((Only.refl ga w3).setCell off (.pointer none))
  have hoA := (Only.refl ga w3).setCell off (.pointer none)
  have hkeep : ∀ k, k ≠ gb → k ≠ ga → (w3.setCell ⟨ga, off, none⟩ (.pointer none)).heap[k]? = w.heap[k]? := fun k h1 h2 => by rw [hoA.block k h2, ho3.block k h1]
  have hbelow : Below base w (w3.setCell ⟨ga, off, none⟩ (.pointer none)) := (ho3.below hbs).trans (hoA.below hbg)
  have hsize : (w3.setCell ⟨ga, off, none⟩ (.pointer none)).heap.size = w.heap.size := by rw [hoA.size, ho3.size]
  have HLN : Hid (n - 1 = l.length) := Lib.hid (by have := HLEN.out; omega)
  by_cases hc1 : c = 1
  · obtain rfl : n = 1 := by have := HLEN.out; omega
    subst hc1
    have hO4 : OwnE (w3.setCell ⟨ga, off, none⟩ (.pointer none)) base 66 1 (.slice (some ⟨ga, off, none⟩) 0 0) 0 [] := hown3.frontAll [.pointer none]
    clear hown3 hoA
    go_upto_region 5 with fail
    generalize w3.setCell ⟨ga, off, none⟩ (.pointer none) = w4 at h14 hkeep hbelow hsize hO4 ⊢
    obtain ⟨_, _, _, _, _, _, _, _, _, _⟩ := AtS.cells10 h14
    have hf4 : ∀ i, w4.frozen? ⟨gb, i, none⟩ = false := fun i => AtS.free h14 i
    go_wp2_with fail
    go_end0
    have hl0 : l = [] := List.eq_nil_of_length_eq_zero (by have := HLN.out; omega)
    subst hl0
    have ho5 := (Only.refl gb w4).setCell 9 (.slice (some ⟨ga, off, none⟩) 0 0)
    obtain ⟨r1, r2⟩ := HFIN.out _ (.slice (some ⟨ga, off, none⟩) 0 0) (at10_set9 h14 _) (hO4.keep (by rw [ho5.size]; exact Nat.le_refl _) (fun k cs hk _ => by cases hk; exact ho5.block ga hgg)) rfl (fun k h1 h2 => by rw [ho5.block k h1]; exact hkeep k h1 h2) (by rw [ho5.size, hsize]; exact Nat.le_refl _) (by rw [ho5.size, hsize])
    exact ⟨rfl, ⟨_, r1, r2⟩, hbelow.trans (ho5.below hbs)⟩
  · have hO4 : OwnE (w3.setCell ⟨ga, off, none⟩ (.pointer none)) base 66 1 (.slice (some ⟨ga, off + 1, none⟩) (n - 1) (c - 1)) (n - 1) (bfV l) := by
      have := hown3.front 1 (by have := HLEN.out; omega) [.pointer none] (by simp)
      rw [Nat.one_mul, bfDrop] at this
      exact this
    clear hown3 hoA
    go_upto_region 5 with fail
    generalize w3.setCell ⟨ga, off, none⟩ (.pointer none) = w4 at h14 hkeep hbelow hsize hO4 ⊢
    obtain ⟨_, _, _, _, _, _, _, _, _, _⟩ := AtS.cells10 h14
    have hf4 : ∀ i, w4.frozen? ⟨gb, i, none⟩ = false := fun i => AtS.free h14 i
    go_wp2_with fail
    go_end0
    have ho5 := (Only.refl gb w4).setCell 9 (.slice (some ⟨ga, off + 1, none⟩) (n - 1) (c - 1))
    have hln := HLN.out
    rw [hln] at hO4
    have hO5 : OwnE (w4.setCell ⟨gb, 9, none⟩ (.slice (some ⟨ga, off + 1, none⟩) (n - 1) (c - 1))) base 66 1 (.slice (some ⟨ga, off + 1, none⟩) (n - 1) (c - 1)) l.length (bfV l) := by
      rw [hln]
      rw [hln] at ho5
      exact hO4.keep (by rw [ho5.size]; exact Nat.le_refl _) (fun k cs hk _ => by cases hk; exact ho5.block ga hgg)
    obtain ⟨r1, r2⟩ := HFIN.out _ (.slice (some ⟨ga, off + 1, none⟩) (n - 1) (c - 1)) (at10_set9 h14 _) hO5 rfl (fun k h1 h2 => by rw [ho5.block k h1]; exact hkeep k h1 h2) (by rw [ho5.size, hsize]; exact Nat.le_refl _) (by rw [ho5.size, hsize])
    exact ⟨rfl, ⟨_, r1, r2⟩, hbelow.trans (ho5.below hbs)⟩
end Go.Proofs.Ytgomijhckmcfeaa
