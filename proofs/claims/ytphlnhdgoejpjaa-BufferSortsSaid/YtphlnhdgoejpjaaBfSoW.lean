/- BufferSorts: the walk. -/
import Derived.Test.YtphlnhdgoejpjaaBfSoM
import Derived.Test.YtphlnhdgoejpjaaOrdM
namespace Go.Proofs.Ytphlnhdgoejpjaa
open Go.RowKit Go.Maps
set_option linter.unusedVariables false
set_option linter.unusedSimpArgs false
theorem so_skip {P : Program} {Q : Exit → Act → World → Prop} {md : Region.Mode} {S : World → Prop} {L : Nat → Bool} {l : List Oper} (i : Nat) {oi : Oper} {fuel : Nat} {listed : Array Bool} {a : Act} {w : World} (hi : l[i]? = some oi)
    (hs : Region.noSelect l.toArray = true) (hf : Region.free md l.toArray listed i = true) (hr : (Region.ready md l.toArray listed).contains i = true) (hw : allWait md l L i = true)
    (hQ : ∀ c a w, Q (.panic c) (a.put oi.dst undef) w → Q (.panic c) a w) (hg : Region.wanted oi (yielded l.toArray a.tmps) = false) (hS : S w)
    (h : wpAnyM P md l.toArray Q S L fuel (listed.setIfInBounds i true) (a.put oi.dst undef) w) : wpAnyM P md l.toArray Q S L (fuel + 1) listed a w :=
  wpAnyM_first (by simpa using hi) (Region.noSelect_spec hs) hQ (allWait_spec hw) fuel listed a w (Region.free_spec (by simpa using hi) hf) (by simpa using hr) (.inr ⟨hg, rfl⟩) hS h
theorem soBd {a : Int} (h : (Lit.int .u32 a).wf = true) : 0 ≤ a ∧ a ≤ 4294967295 := by
  simp [Lit.wf, IntKind.min, IntKind.max, IntKind.bits, IntKind.signed] at h; omega
namespace bufferSorts
set_option maxRecDepth 100000 in
set_option maxHeartbeats 12800000 in
theorem walk (p0 : Option Addr) (len0 cap0 : Nat) (z0 : List Int) (a1 : Int) (w1 : (Lit.int .i64 a1).wf = true) (w : World) (w0 : IsRow .u32 w p0 len0 cap0 z0) :
    Calls Try.prog 6 #[.slice p0 len0 cap0, .int .i64 a1] w fun e w' => e = .returned (.bool true) ∧ Below w.heap.size w w' := by
  obtain ⟨es, rfl, l1, l2, hr0, hwf⟩ := w0.reads
  have HWF := Lib.hid hwf
  clear w1 w0 hwf
  have HR := Lib.hid (fun (W : World) (h : Below w.heap.size w W) => hr0.later h)
  clear hr0
  have HA := Lib.hid (fun (W : World) => bfAwake_any W)
  have HN : Hid (∀ W, Calls Try.prog 8 #[.agg #[.int .i64 100, .int .i64 100, .int .i64 1000]] W fun e w' => ∃ gb, e = .returned (.pointer (some ⟨gb, 0, none⟩)) ∧ BIn w' W.heap.size gb soS (.slice none 0 0) [] ∧ Below W.heap.size W w') := Lib.hid (fun W => bfNew_any 100 100 1000 W)
  have hm : bits .and .i64 a1 65535 = a1 % 65536 := i64_mask a1 16 (by omega)
  have hmm := @run_makeMap Try.prog
  go_enter Try.func6, Try.ntmps6
  go_wp2_with fail
  refine (HA.out _).mono ?_
  rintro e wa ⟨rfl, hka⟩
  clear HA
  go_wp2_with fail
  refine (HN.out _).mono ?_
  rintro e wb ⟨gb, rfl, hIb, hkb⟩
  clear HN
  have hT : am 0 (a1 % 65536) 1099511627776 = a1 % 65536 := am_in _ _ _ (by omega) (by omega)
  have t0 : 0 ≤ a1 % 65536 := by omega
  have t1 : a1 % 65536 < 65536 := by omega
  have HI0 : SoIn w (wb.alloc (.map #[] 0)) w.heap.size wa.heap.size gb wb.heap.size (a1 % 65536) 0 0 (.slice none 0 0) [] (fun _ => none) := by
    have hal := (Below.refl wb.heap.size wb).alloc (Nat.le_refl _) (.map #[] 0)
    have hb2 := hka.trans (hkb.mono hka.size)
    exact ⟨hIb.later hal, mapU_new wb, fun e => absurd (hIb.foot_lt e) (Nat.lt_irrefl _), hb2.alloc hb2.size _, hka.size, hb2.size, fun x hx => by cases hx⟩
  go_wp2_with (rw [hm])
  generalize (wb.alloc (.map #[] 0)) = wc at HI0 ⊢
  generalize wb.heap.size = gm at HI0 ⊢
  generalize wa.heap.size = B at HI0 ⊢
  clear hIb hkb hka hmm hm
  generalize a1 % 65536 = T at *
  generalize hg : w.heap.size = g at HI0 ⊢
  have HG := Lib.hid hg
  clear hg
  go_loopw [7] (fun i wr => ∃ (k : Nat) (v : Value) (l : List BF) (f : Int → Option Bool), k ≤ es.length ∧ k ≤ 40 ∧ i = .int .i64 k ∧ SoIn w wr g B gb gm T k l.length v l f ∧ Hid (∀ y, (f y = some true ∧ y ∈ l.map BF.t) ∨ (f y = none ∧ y ∉ l.map BF.t)) ∧ l.length ≤ k) (fun i _ => 40 - (intOf i).toNat)
  case atStart => exact ⟨0, _, [], _, Nat.zero_le _, by omega, rfl, HI0, Lib.hid (fun y => .inr ⟨rfl, by simp⟩), Nat.le_refl _⟩
  case round =>
    obtain ⟨k, v, l, f, hk, hk40, rfl, hI, HF, hlk⟩ := hrel
    clear HI0
    by_cases hlt : k < es.length ∧ k < 40
    · obtain ⟨hlt, hlt40⟩ := hlt
      obtain ⟨ab, off, rfl, hcell⟩ := (HR.out wr (by rw [HG.out]; exact hI.bel)).at hlt
      have hcW : ∀ W : World, Below g w W → W.cell? ⟨ab, off + k, none⟩ = some (.int .u32 (es[k]?.getD 0)) := fun W hW => by
        obtain ⟨ab2, off2, e2, hc2⟩ := (HR.out W (by rw [HG.out]; exact hW)).at hlt
        cases e2
        exact hc2
      have hx : (Lit.int .u32 (es[k]?.getD 0)).wf = true := HWF.out _ (by rw [List.getElem?_eq_getElem hlt]; exact List.getElem_mem hlt)
      generalize es[k]?.getD 0 = x at hcell hcW hx
      have hxx : 0 ≤ x ∧ x ≤ 4294967295 := soBd hx
      obtain ⟨x0, x1⟩ := hxx
      have hl40 : l.length ≤ 40 := by omega
      have i0 : (0 : Int) ≤ (k : Int) := by omega
      have i1 : (k : Int) < (es.length : Int) := by omega
      have i2 : (k : Int) < 40 := by omega
      go_upto_region 11 with fail
      have hcD := hcW wr.drew hI.bel.drew
      have hcS : ∀ W : World, Below g w W → W.cell? ⟨ab, off + k, none⟩ = some (.int .u32 x) ∧ True := fun W h => ⟨hcW W h, trivial⟩
      go_cut [8] (fun z wx => ∃ (gc : Nat) (kd : Int) (ea : Option Addr) (ec : Nat) (v' : Value) (l' : List BF), z = .pointer (some ⟨gc, 0, none⟩) ∧ AtS 53 wx gc #[.int .i64 kd, .slice ea 0 ec] ∧ SoIn w wx g B gb gm T k l.length v' l' f ∧ SoNext l l' x kd ∧ g ≤ gc)
      case first =>
        have hS0 := hcS wr.drew hI.bel.drew
        have hlg := hI.lt
        refine wp_region_noPanic ?_
        refine ordM_begin (fun W : World => W.cell? ⟨ab, off + k, none⟩ = some (.int .u32 x) ∧ True) (fun i => i == 16) (by kernel_rfl) hS0 ?_
        refine ordM_take 0 ?vq1 rfl (by kernel_rfl) (by kernel_rfl) (by kernel_rfl) (by kernel_rfl) (fun _ _ _ h => h) (by rfl) ?hq1 (by assumption) ?rq1
        case hq1 => (intro W hSw; (try dsimp only at hSw); go_simp <;> with_reducible rfl)
        (try simp only [Act.put, List.setIfInBounds_toArray, List.set_cons_zero, List.set_cons_succ])
        refine ordM_take 1 ?vq2 rfl (by kernel_rfl) (by kernel_rfl) (by kernel_rfl) (by kernel_rfl) (fun _ _ _ h => h) (by rfl) ?hq2 (by assumption) ?rq2
        case hq2 => (intro W hSw; (try dsimp only at hSw); go_simp <;> with_reducible rfl)
        (try simp only [Act.put, List.setIfInBounds_toArray, List.set_cons_zero, List.set_cons_succ])
        refine ordM_take 2 ?vq3 rfl (by kernel_rfl) (by kernel_rfl) (by kernel_rfl) (by kernel_rfl) (fun _ _ _ h => h) (by rfl) ?hq3 (by assumption) ?rq3
        case hq3 => (intro W hSw; (try dsimp only at hSw); go_simp <;> with_reducible rfl)
        (try simp only [Act.put, List.setIfInBounds_toArray, List.set_cons_zero, List.set_cons_succ])
        refine ordM_take 3 ?vq4 rfl (by kernel_rfl) (by kernel_rfl) (by kernel_rfl) (by kernel_rfl) (fun _ _ _ h => h) (by rfl) ?hq4 (by assumption) ?rq4
        case hq4 => (intro W hSw; (try dsimp only at hSw); go_simp <;> with_reducible rfl)
        (try simp only [Act.put, List.setIfInBounds_toArray, List.set_cons_zero, List.set_cons_succ])
        refine ordM_take 4 ?vq5 rfl (by kernel_rfl) (by kernel_rfl) (by kernel_rfl) (by kernel_rfl) (fun _ _ _ h => h) (by rfl) ?hq5 (by assumption) ?rq5
        case hq5 => (intro W hSw; (try dsimp only at hSw); go_simp <;> with_reducible rfl)
        (try simp only [Act.put, List.setIfInBounds_toArray, List.set_cons_zero, List.set_cons_succ])
        refine ordM_take 5 ?vq6 rfl (by kernel_rfl) (by kernel_rfl) (by kernel_rfl) (by kernel_rfl) (fun _ _ _ h => h) (by rfl) ?hq6 (by assumption) ?rq6
        case hq6 => (intro W hSw; (try dsimp only at hSw); go_simp <;> with_reducible rfl)
        (try simp only [Act.put, List.setIfInBounds_toArray, List.set_cons_zero, List.set_cons_succ])
        refine ordM_take 6 ?vq7 rfl (by kernel_rfl) (by kernel_rfl) (by kernel_rfl) (by kernel_rfl) (fun _ _ _ h => h) (by rfl) ?hq7 (by assumption) ?rq7
        case hq7 => (intro W hSw; (try dsimp only at hSw); go_simp <;> with_reducible rfl)
        (try simp only [Act.put, List.setIfInBounds_toArray, List.set_cons_zero, List.set_cons_succ])
        refine ordM_take 7 ?vq8 rfl (by kernel_rfl) (by kernel_rfl) (by kernel_rfl) (by kernel_rfl) (fun _ _ _ h => h) (by rfl) ?hq8 (by assumption) ?rq8
        case hq8 => (intro W hSw; (try dsimp only at hSw); go_simp <;> with_reducible rfl)
        (try simp only [Act.put, List.setIfInBounds_toArray, List.set_cons_zero, List.set_cons_succ])
        refine ordM_take 8 ?vq9 rfl (by kernel_rfl) (by kernel_rfl) (by kernel_rfl) (by kernel_rfl) (fun _ _ _ h => h) (by rfl) ?hq9 (by assumption) ?rq9
        case hq9 => (intro W hSw; (try dsimp only at hSw); go_simp <;> with_reducible rfl)
        (try simp only [Act.put, List.setIfInBounds_toArray, List.set_cons_zero, List.set_cons_succ])
        refine ordM_take 9 ?vq10 rfl (by kernel_rfl) (by kernel_rfl) (by kernel_rfl) (by kernel_rfl) (fun _ _ _ h => h) (by rfl) ?hq10 (by assumption) ?rq10
        case hq10 => (intro W hSw; (try dsimp only at hSw); go_simp <;> with_reducible rfl)
        (try simp only [Act.put, List.setIfInBounds_toArray, List.set_cons_zero, List.set_cons_succ])
        refine ordM_take 10 ?vq11 rfl (by kernel_rfl) (by kernel_rfl) (by kernel_rfl) (by kernel_rfl) (fun _ _ _ h => h) (by rfl) ?hq11 (by assumption) ?rq11
        case hq11 => (intro W hSw; (try dsimp only at hSw); go_simp <;> with_reducible rfl)
        (try simp only [Act.put, List.setIfInBounds_toArray, List.set_cons_zero, List.set_cons_succ])
        refine ordM_take 13 ?vq12 rfl (by kernel_rfl) (by kernel_rfl) (by kernel_rfl) (by kernel_rfl) (fun _ _ _ h => h) (by rfl) ?hq12 (by assumption) ?rq12
        case hq12 => (intro W hSw; (try dsimp only at hSw); go_simp <;> with_reducible rfl)
        (try simp only [Act.put, List.setIfInBounds_toArray, List.set_cons_zero, List.set_cons_succ])
        refine ordM_ready [11, 15] (by kernel_rfl) (by simp) ?_
        refine AllReadyM.cons rfl (fun K hK => ?_) ?_
        · go_simp
          have hIU : SoIn w (wr.alloc (.cells #[.int .u8 (IntKind.u8.wrap x)] 5)).drew g B gb gm T k l.length v l f := hI.later (((Below.refl _ _).alloc (Nat.le_refl _) _).drew)
          have hU : (wr.alloc (.cells #[.int .u8 (IntKind.u8.wrap x)] 5)).drew.heap[wr.heap.size]? = some (.cells #[.int .u8 (IntKind.u8.wrap x)] 5 (0, 0)) := heap_alloc_new wr _
          have hS1 := hcS _ hIU.bel
          refine hK.out _ _ (fun _ => hS1) ?_
          clear hK K
          (try simp only [Act.put, List.setIfInBounds_toArray, List.set_cons_zero, List.set_cons_succ])
          generalize (wr.alloc (.cells #[.int .u8 (IntKind.u8.wrap x)] 5)).drew = w2 at hIU hU hS1 ⊢
          generalize wr.heap.size = gu at hU ⊢
          have hcv := so_conv w2 gu _ hU
          refine ordM_ready [12, 15] (by kernel_rfl) (by simp) ?_
          refine AllReadyM.cons rfl (fun K hK => ?_) ?_
          · go_simp
            refine hK.out _ _ (fun _ => hS1) ?_
            clear hK K
            (try simp only [Act.put, List.setIfInBounds_toArray, List.set_cons_zero, List.set_cons_succ])
            refine ordM_ready [14, 15] (by kernel_rfl) (by simp) ?_
            refine AllReadyM.cons rfl (fun K hK => ?_) ?_
            · go_simp
              go_at_call 19
              refine (soPut hIU x T x0 x1 hl40 hT).mono ?_
              rintro e w5 ⟨kd, ea, ec, v5, l5, rfl, hN5, hI5, hK5⟩
              (try go_wp2_with fail)
              have hS6 := hcS w5 hI5.bel
              refine hK.out _ _ (fun _ => hS6) ?_
              clear hK K
              (try simp only [Act.put, List.setIfInBounds_toArray, List.set_cons_zero, List.set_cons_succ])
              refine ordM_ready [15] (by kernel_rfl) (by simp) ?_
              refine AllReadyM.cons rfl (fun K hK => ?_) AllReadyM.nil
              go_simp
              have hS7 := hcS (w5.alloc (.cells #[.int .i64 0, .slice none 0 0] 53)) (hI5.later ((Below.refl w5.heap.size w5).alloc (Nat.le_refl _) _)).bel
              refine hK.out _ _ (fun _ => hS7) ?_
              clear hK K
              (try simp only [Act.put, List.setIfInBounds_toArray, List.set_cons_zero, List.set_cons_succ])
              refine ordM_ready [16] (by kernel_rfl) (by simp) ?_
              refine AllReadyM.cons rfl (fun K hK => ?_) AllReadyM.nil
              go_simp
              refine hK.out _ _ (fun h => absurd h (by decide)) ?_
              clear hK K
              (try simp only [Act.put, List.setIfInBounds_toArray, List.set_cons_zero, List.set_cons_succ])
              refine ordM_done (by kernel_rfl) ?_ _
              refine NoPanic.normal ?_
              go_wp2_with fail
              go_meet
              exact ⟨w5.heap.size, kd, ea, ec, v5, l5, rfl, atS_new _ _ _ _ rfl, hI5.later ((Below.refl w5.heap.size w5).alloc (Nat.le_refl _) _), hN5, Nat.le_of_lt hI5.lt⟩
            · refine AllReadyM.cons rfl (fun K hK => ?_) AllReadyM.nil
              go_simp
              have hZ : AtS 53 ((w2).alloc (.cells #[.int .i64 0, .slice none 0 0] 53)) (w2).heap.size #[.int .i64 0, .slice none 0 0] := atS_new _ _ _ _ rfl
              have hIZ := SoIn.later hIU ((Below.refl (w2).heap.size (w2)).alloc (Nat.le_refl _) (.cells #[.int .i64 0, .slice none 0 0] 53))
              have hgz : g ≤ (w2).heap.size := Nat.le_of_lt (SoIn.lt hIU)
              have hS3 := hcS _ hIZ.bel
              refine hK.out _ _ (fun _ => hS3) ?_
              clear hK K
              (try simp only [Act.put, List.setIfInBounds_toArray, List.set_cons_zero, List.set_cons_succ])
              generalize (w2.alloc (.cells #[.int .i64 0, .slice none 0 0] 53)) = w4 at hZ hIZ hS3 ⊢
              generalize w2.heap.size = gc at hZ hgz ⊢
              refine ordM_ready [14] (by kernel_rfl) (by simp) ?_
              refine AllReadyM.cons rfl (fun K hK => ?_) AllReadyM.nil
              go_simp
              go_at_call 19
              refine (soPut hIZ x T x0 x1 hl40 hT).mono ?_
              rintro e w5 ⟨kd, ea, ec, v5, l5, rfl, hN5, hI5, hK5⟩
              (try go_wp2_with fail)
              have hS6 := hcS w5 hI5.bel
              refine hK.out _ _ (fun _ => hS6) ?_
              clear hK K
              (try simp only [Act.put, List.setIfInBounds_toArray, List.set_cons_zero, List.set_cons_succ])
              have hZ5 : AtS 53 w5 gc #[.int .i64 0, .slice none 0 0] := by
                have hh := hZ
                unfold AtS at hh ⊢
                rw [hK5.blk (hIZ).bin hh (by decide) (by decide) (by decide)]
                exact hh
              obtain ⟨_, _⟩ := hZ5.cells2
              have hfz5 : ∀ i, w5.frozen? ⟨gc, i, none⟩ = false := fun i => AtS.free hZ5 i
              refine ordM_ready [16] (by kernel_rfl) (by simp) ?_
              refine AllReadyM.cons rfl (fun K hK => ?_) AllReadyM.nil
              go_simp
              refine hK.out _ _ (fun h => absurd h (by decide)) ?_
              clear hK K
              (try simp only [Act.put, List.setIfInBounds_toArray, List.set_cons_zero, List.set_cons_succ])
              refine ordM_done (by kernel_rfl) ?_ _
              refine NoPanic.normal ?_
              go_wp2_with fail
              go_meet
              have ho : Only gc w5 ((w5.setCell ⟨gc, 0, none⟩ (.int .i64 kd)).setCell ⟨gc, 1, none⟩ (.slice ea 0 ec)) := ((Only.refl _ w5).setCell 0 _).setCell 1 _
              exact ⟨gc, kd, ea, ec, v5, l5, rfl, at2_set hZ5 _ _, hI5.only hZ5 ho (by omega) (by decide) (by decide) (by decide), hN5, by omega⟩
          · refine AllReadyM.cons rfl (fun K hK => ?_) AllReadyM.nil
            have hU4 : (w2.alloc (.cells #[.int .i64 0, .slice none 0 0] 53)).heap[gu]? = some (.cells #[.int .u8 (IntKind.u8.wrap x)] 5 (0, 0)) := by
              have := ((Below.refl w2.heap.size w2).alloc (Nat.le_refl _) (.cells #[.int .i64 0, .slice none 0 0] 53)).block gu (lt_of_block hU)
              rw [this]
              exact hU
            go_simp
            have hZ : AtS 53 ((w2).alloc (.cells #[.int .i64 0, .slice none 0 0] 53)) (w2).heap.size #[.int .i64 0, .slice none 0 0] := atS_new _ _ _ _ rfl
            have hIZ := SoIn.later hIU ((Below.refl (w2).heap.size (w2)).alloc (Nat.le_refl _) (.cells #[.int .i64 0, .slice none 0 0] 53))
            have hgz : g ≤ (w2).heap.size := Nat.le_of_lt (SoIn.lt hIU)
            have hS3 := hcS _ hIZ.bel
            refine hK.out _ _ (fun _ => hS3) ?_
            clear hK K
            (try simp only [Act.put, List.setIfInBounds_toArray, List.set_cons_zero, List.set_cons_succ])
            generalize (w2.alloc (.cells #[.int .i64 0, .slice none 0 0] 53)) = w4 at hZ hIZ hS3 hU4 ⊢
            generalize w2.heap.size = gc at hZ hgz ⊢
            have hcv4 := so_conv w4 gu _ hU4
            refine ordM_ready [12] (by kernel_rfl) (by simp) ?_
            refine AllReadyM.cons rfl (fun K hK => ?_) AllReadyM.nil
            go_simp
            refine hK.out _ _ (fun _ => hS3) ?_
            clear hK K
            (try simp only [Act.put, List.setIfInBounds_toArray, List.set_cons_zero, List.set_cons_succ])
            refine ordM_ready [14] (by kernel_rfl) (by simp) ?_
            refine AllReadyM.cons rfl (fun K hK => ?_) AllReadyM.nil
            go_simp
            go_at_call 19
            refine (soPut hIZ x T x0 x1 hl40 hT).mono ?_
            rintro e w5 ⟨kd, ea, ec, v5, l5, rfl, hN5, hI5, hK5⟩
            (try go_wp2_with fail)
            have hS6 := hcS w5 hI5.bel
            refine hK.out _ _ (fun _ => hS6) ?_
            clear hK K
            (try simp only [Act.put, List.setIfInBounds_toArray, List.set_cons_zero, List.set_cons_succ])
            have hZ5 : AtS 53 w5 gc #[.int .i64 0, .slice none 0 0] := by
              have hh := hZ
              unfold AtS at hh ⊢
              rw [hK5.blk (hIZ).bin hh (by decide) (by decide) (by decide)]
              exact hh
            obtain ⟨_, _⟩ := hZ5.cells2
            have hfz5 : ∀ i, w5.frozen? ⟨gc, i, none⟩ = false := fun i => AtS.free hZ5 i
            refine ordM_ready [16] (by kernel_rfl) (by simp) ?_
            refine AllReadyM.cons rfl (fun K hK => ?_) AllReadyM.nil
            go_simp
            refine hK.out _ _ (fun h => absurd h (by decide)) ?_
            clear hK K
            (try simp only [Act.put, List.setIfInBounds_toArray, List.set_cons_zero, List.set_cons_succ])
            refine ordM_done (by kernel_rfl) ?_ _
            refine NoPanic.normal ?_
            go_wp2_with fail
            go_meet
            have ho : Only gc w5 ((w5.setCell ⟨gc, 0, none⟩ (.int .i64 kd)).setCell ⟨gc, 1, none⟩ (.slice ea 0 ec)) := ((Only.refl _ w5).setCell 0 _).setCell 1 _
            exact ⟨gc, kd, ea, ec, v5, l5, rfl, at2_set hZ5 _ _, hI5.only hZ5 ho (by omega) (by decide) (by decide) (by decide), hN5, by omega⟩
        · refine AllReadyM.cons rfl (fun K hK => ?_) AllReadyM.nil
          go_simp
          have hZ : AtS 53 (wr.alloc (.cells #[.int .i64 0, .slice none 0 0] 53)).drew wr.heap.size #[.int .i64 0, .slice none 0 0] := AtS.drew (atS_new _ wr _ _ rfl)
          have hIZ : SoIn w (wr.alloc (.cells #[.int .i64 0, .slice none 0 0] 53)).drew g B gb gm T k l.length v l f := hI.later (((Below.refl _ _).alloc (Nat.le_refl _) _).drew)
          have hgz : g ≤ wr.heap.size := Nat.le_of_lt hI.lt
          have hS1 := hcS _ hIZ.bel
          refine hK.out _ _ (fun _ => hS1) ?_
          clear hK K
          (try simp only [Act.put, List.setIfInBounds_toArray, List.set_cons_zero, List.set_cons_succ])
          generalize (wr.alloc (.cells #[.int .i64 0, .slice none 0 0] 53)).drew = w2 at hIZ hZ hS1 ⊢
          generalize wr.heap.size = gc at hZ hgz ⊢
          refine ordM_ready [11] (by kernel_rfl) (by simp) ?_
          refine AllReadyM.cons rfl (fun K hK => ?_) AllReadyM.nil
          go_simp
          have hIU : SoIn w (w2.alloc (.cells #[.int .u8 (IntKind.u8.wrap x)] 5)) g B gb gm T k l.length v l f := hIZ.later ((Below.refl _ _).alloc (Nat.le_refl _) _)
          have hZU := AtS.later hZ ((Below.refl w2.heap.size w2).alloc (Nat.le_refl _) (.cells #[.int .u8 (IntKind.u8.wrap x)] 5))
          have hU : (w2.alloc (.cells #[.int .u8 (IntKind.u8.wrap x)] 5)).heap[w2.heap.size]? = some (.cells #[.int .u8 (IntKind.u8.wrap x)] 5 (0, 0)) := heap_alloc_new w2 _
          have hS3 := hcS _ hIU.bel
          refine hK.out _ _ (fun _ => hS3) ?_
          clear hK K
          (try simp only [Act.put, List.setIfInBounds_toArray, List.set_cons_zero, List.set_cons_succ])
          generalize (w2.alloc (.cells #[.int .u8 (IntKind.u8.wrap x)] 5)) = w4 at hIU hZU hU hS3 ⊢
          generalize w2.heap.size = gu at hU ⊢
          have hcv := so_conv w4 gu _ hU
          refine ordM_ready [12] (by kernel_rfl) (by simp) ?_
          refine AllReadyM.cons rfl (fun K hK => ?_) AllReadyM.nil
          go_simp
          refine hK.out _ _ (fun _ => hS3) ?_
          clear hK K
          (try simp only [Act.put, List.setIfInBounds_toArray, List.set_cons_zero, List.set_cons_succ])
          refine ordM_ready [14] (by kernel_rfl) (by simp) ?_
          refine AllReadyM.cons rfl (fun K hK => ?_) AllReadyM.nil
          go_simp
          go_at_call 19
          refine (soPut hIU x T x0 x1 hl40 hT).mono ?_
          rintro e w5 ⟨kd, ea, ec, v5, l5, rfl, hN5, hI5, hK5⟩
          (try go_wp2_with fail)
          have hS6 := hcS w5 hI5.bel
          refine hK.out _ _ (fun _ => hS6) ?_
          clear hK K
          (try simp only [Act.put, List.setIfInBounds_toArray, List.set_cons_zero, List.set_cons_succ])
          have hZ5 : AtS 53 w5 gc #[.int .i64 0, .slice none 0 0] := by
            have hh := hZU
            unfold AtS at hh ⊢
            rw [hK5.blk (hIU).bin hh (by decide) (by decide) (by decide)]
            exact hh
          obtain ⟨_, _⟩ := hZ5.cells2
          have hfz5 : ∀ i, w5.frozen? ⟨gc, i, none⟩ = false := fun i => AtS.free hZ5 i
          refine ordM_ready [16] (by kernel_rfl) (by simp) ?_
          refine AllReadyM.cons rfl (fun K hK => ?_) AllReadyM.nil
          go_simp
          refine hK.out _ _ (fun h => absurd h (by decide)) ?_
          clear hK K
          (try simp only [Act.put, List.setIfInBounds_toArray, List.set_cons_zero, List.set_cons_succ])
          refine ordM_done (by kernel_rfl) ?_ _
          refine NoPanic.normal ?_
          go_wp2_with fail
          go_meet
          have ho : Only gc w5 ((w5.setCell ⟨gc, 0, none⟩ (.int .i64 kd)).setCell ⟨gc, 1, none⟩ (.slice ea 0 ec)) := ((Only.refl _ w5).setCell 0 _).setCell 1 _
          exact ⟨gc, kd, ea, ec, v5, l5, rfl, at2_set hZ5 _ _, hI5.only hZ5 ho (by omega) (by decide) (by decide) (by decide), hN5, by omega⟩
      case rest =>
      obtain ⟨gc, kd, ea, ec, v', l', rfl, hC, hJ, hNX, hgc⟩ := hcut
      rename World => w3
      have hJd : SoIn w w3.drew g B gb gm T k l.length v' l' f := hJ.later (Below.refl _ _).drew
      rcases hNX.kd with ⟨rfl, hxl, hll⟩ | ⟨rfl, hxl, hll⟩
      · have hfx : f x = some true := by
          rcases HF.out x with ⟨h, _⟩ | ⟨_, h⟩
          · exact h
          · exact absurd hxl h
        have hlk3 := hJ.map.eq hx
        rw [hfx] at hlk3
        have hlkd := hJd.map.eq hx
        rw [hfx] at hlkd
        simp only [Option.getD] at hlk3 hlkd
        have hS3 := And.intro (hcW w3.drew hJd.bel) (And.intro (AtS.drew hC).cells2.1 hlkd)
        clear hcW
        go_upto_region 12 with fail
        refine wp_region_noPanic ?_
        refine ordM_begin (fun W : World => W.cell? ⟨ab, off + k, none⟩ = some (.int .u32 x) ∧ W.cell? ⟨gc, 0, none⟩ = some (.int .i64 3) ∧ (Instr.lookup 45 (.map (some gm)) (.int .u32 x) false).run Try.prog W = .ok (.bool true) W) (fun i => false) (by kernel_rfl) hS3 ?_
        refine ordM_take 0 ?vq13 rfl (by kernel_rfl) (by kernel_rfl) (by kernel_rfl) (by kernel_rfl) (fun _ _ _ h => h) (by rfl) ?hq13 (by assumption) ?rq13
        case hq13 => (intro W hSw; (try dsimp only at hSw); go_simp <;> with_reducible rfl)
        (try simp only [Act.put, List.setIfInBounds_toArray, List.set_cons_zero, List.set_cons_succ])
        refine ordM_take 1 ?vq14 rfl (by kernel_rfl) (by kernel_rfl) (by kernel_rfl) (by kernel_rfl) (fun _ _ _ h => h) (by rfl) ?hq14 (by assumption) ?rq14
        case hq14 => (intro W hSw; (try dsimp only at hSw); go_simp <;> with_reducible rfl)
        (try simp only [Act.put, List.setIfInBounds_toArray, List.set_cons_zero, List.set_cons_succ])
        refine ordM_take 2 ?vq15 rfl (by kernel_rfl) (by kernel_rfl) (by kernel_rfl) (by kernel_rfl) (fun _ _ _ h => h) (by rfl) ?hq15 (by assumption) ?rq15
        case hq15 => (intro W hSw; (try dsimp only at hSw); go_simp <;> with_reducible rfl)
        (try simp only [Act.put, List.setIfInBounds_toArray, List.set_cons_zero, List.set_cons_succ])
        refine ordM_take 3 ?vq16 rfl (by kernel_rfl) (by kernel_rfl) (by kernel_rfl) (by kernel_rfl) (fun _ _ _ h => h) (by rfl) ?hq16 (by assumption) ?rq16
        case hq16 => (intro W hSw; (try dsimp only at hSw); go_simp <;> with_reducible rfl)
        (try simp only [Act.put, List.setIfInBounds_toArray, List.set_cons_zero, List.set_cons_succ])
        refine ordM_take 4 ?vq17 rfl (by kernel_rfl) (by kernel_rfl) (by kernel_rfl) (by kernel_rfl) (fun _ _ _ h => h) (by rfl) ?hq17 (by assumption) ?rq17
        case hq17 => (intro W hSw; (try dsimp only at hSw); go_simp <;> with_reducible rfl)
        (try simp only [Act.put, List.setIfInBounds_toArray, List.set_cons_zero, List.set_cons_succ])
        refine ordM_take 5 ?vq18 rfl (by kernel_rfl) (by kernel_rfl) (by kernel_rfl) (by kernel_rfl) (fun _ _ _ h => h) (by rfl) ?hq18 (by assumption) ?rq18
        case hq18 => (intro W hSw; (try dsimp only at hSw); go_simp <;> with_reducible rfl)
        (try simp only [Act.put, List.setIfInBounds_toArray, List.set_cons_zero, List.set_cons_succ])
        refine ordM_take 6 ?vq19 rfl (by kernel_rfl) (by kernel_rfl) (by kernel_rfl) (by kernel_rfl) (fun _ _ _ h => h) (by rfl) ?hq19 (by assumption) ?rq19
        case hq19 => (intro W hSw; (try dsimp only at hSw); go_simp <;> with_reducible rfl)
        (try simp only [Act.put, List.setIfInBounds_toArray, List.set_cons_zero, List.set_cons_succ])
        refine ordM_take 7 ?vq20 rfl (by kernel_rfl) (by kernel_rfl) (by kernel_rfl) (by kernel_rfl) (fun _ _ _ h => h) (by rfl) ?hq20 (by assumption) ?rq20
        case hq20 => (intro W hSw; (try dsimp only at hSw); go_simp <;> with_reducible rfl)
        (try simp only [Act.put, List.setIfInBounds_toArray, List.set_cons_zero, List.set_cons_succ])
        refine ordM_take 8 ?vq21 rfl (by kernel_rfl) (by kernel_rfl) (by kernel_rfl) (by kernel_rfl) (fun _ _ _ h => h) (by rfl) ?hq21 (by assumption) ?rq21
        case hq21 => (intro W hSw; (try dsimp only at hSw); go_simp <;> with_reducible rfl)
        (try simp only [Act.put, List.setIfInBounds_toArray, List.set_cons_zero, List.set_cons_succ])
        refine ordM_take 9 ?vq22 rfl (by kernel_rfl) (by kernel_rfl) (by kernel_rfl) (by kernel_rfl) (fun _ _ _ h => h) (by rfl) ?hq22 (by assumption) ?rq22
        case hq22 => (intro W hSw; (try dsimp only at hSw); go_simp <;> with_reducible rfl)
        (try simp only [Act.put, List.setIfInBounds_toArray, List.set_cons_zero, List.set_cons_succ])
        refine ordM_take 10 ?vq23 rfl (by kernel_rfl) (by kernel_rfl) (by kernel_rfl) (by kernel_rfl) (fun _ _ _ h => h) (by rfl) ?hq23 (by assumption) ?rq23
        case hq23 => (intro W hSw; (try dsimp only at hSw); go_simp <;> with_reducible rfl)
        (try simp only [Act.put, List.setIfInBounds_toArray, List.set_cons_zero, List.set_cons_succ])
        refine ordM_take 11 ?vq24 rfl (by kernel_rfl) (by kernel_rfl) (by kernel_rfl) (by kernel_rfl) (fun _ _ _ h => h) (by rfl) ?hq24 (by assumption) ?rq24
        case hq24 => (intro W hSw; (try dsimp only at hSw); go_simp <;> with_reducible rfl)
        (try simp only [Act.put, List.setIfInBounds_toArray, List.set_cons_zero, List.set_cons_succ])
        refine ordM_take 12 ?vq25 rfl (by kernel_rfl) (by kernel_rfl) (by kernel_rfl) (by kernel_rfl) (fun _ _ _ h => h) (by rfl) ?hq25 (by assumption) ?rq25
        case hq25 => (intro W hSw; (try dsimp only at hSw); go_simp <;> with_reducible rfl)
        (try simp only [Act.put, List.setIfInBounds_toArray, List.set_cons_zero, List.set_cons_succ])
        refine ordM_take 13 ?vq26 rfl (by kernel_rfl) (by kernel_rfl) (by kernel_rfl) (by kernel_rfl) (fun _ _ _ h => h) (by rfl) ?hq26 (by assumption) ?rq26
        case hq26 => (intro W hSw; (try dsimp only at hSw); go_simp <;> with_reducible rfl)
        (try simp only [Act.put, List.setIfInBounds_toArray, List.set_cons_zero, List.set_cons_succ])
        refine ordM_take 14 ?vq27 rfl (by kernel_rfl) (by kernel_rfl) (by kernel_rfl) (by kernel_rfl) (fun _ _ _ h => h) (by rfl) ?hq27 (by assumption) ?rq27
        case hq27 => (intro W hSw; (try dsimp only at hSw); go_simp <;> with_reducible rfl)
        (try simp only [Act.put, List.setIfInBounds_toArray, List.set_cons_zero, List.set_cons_succ])
        refine ordM_take 15 ?vq28 rfl (by kernel_rfl) (by kernel_rfl) (by kernel_rfl) (by kernel_rfl) (fun _ _ _ h => h) (by rfl) ?hq28 (by assumption) ?rq28
        case hq28 => (intro W hSw; (try dsimp only at hSw); go_simp <;> with_reducible rfl)
        (try simp only [Act.put, List.setIfInBounds_toArray, List.set_cons_zero, List.set_cons_succ])
        refine ordM_take 16 ?vq29 rfl (by kernel_rfl) (by kernel_rfl) (by kernel_rfl) (by kernel_rfl) (fun _ _ _ h => h) (by rfl) ?hq29 (by assumption) ?rq29
        case hq29 => (intro W hSw; (try dsimp only at hSw); go_simp <;> with_reducible rfl)
        (try simp only [Act.put, List.setIfInBounds_toArray, List.set_cons_zero, List.set_cons_succ])
        refine ordM_take 17 ?vq30 rfl (by kernel_rfl) (by kernel_rfl) (by kernel_rfl) (by kernel_rfl) (fun _ _ _ h => h) (by rfl) ?hq30 (by assumption) ?rq30
        case hq30 => (intro W hSw; (try dsimp only at hSw); go_simp <;> with_reducible rfl)
        (try simp only [Act.put, List.setIfInBounds_toArray, List.set_cons_zero, List.set_cons_succ])
        refine ordM_take 18 ?vq31 rfl (by kernel_rfl) (by kernel_rfl) (by kernel_rfl) (by kernel_rfl) (fun _ _ _ h => h) (by rfl) ?hq31 (by assumption) ?rq31
        case hq31 => (intro W hSw; (try dsimp only at hSw); go_simp <;> with_reducible rfl)
        (try simp only [Act.put, List.setIfInBounds_toArray, List.set_cons_zero, List.set_cons_succ])
        refine so_skip 19 rfl (by kernel_rfl) (by kernel_rfl) (by kernel_rfl) (by kernel_rfl) (fun _ _ _ h => h) (by rfl) (by assumption) ?_
        (try simp only [Act.put, List.setIfInBounds_toArray, List.set_cons_zero, List.set_cons_succ])
        refine so_skip 20 rfl (by kernel_rfl) (by kernel_rfl) (by kernel_rfl) (by kernel_rfl) (fun _ _ _ h => h) (by rfl) (by assumption) ?_
        (try simp only [Act.put, List.setIfInBounds_toArray, List.set_cons_zero, List.set_cons_succ])
        refine so_skip 21 rfl (by kernel_rfl) (by kernel_rfl) (by kernel_rfl) (by kernel_rfl) (fun _ _ _ h => h) (by rfl) (by assumption) ?_
        (try simp only [Act.put, List.setIfInBounds_toArray, List.set_cons_zero, List.set_cons_succ])
        refine ordM_take 22 ?vq32 rfl (by kernel_rfl) (by kernel_rfl) (by kernel_rfl) (by kernel_rfl) (fun _ _ _ h => h) (by rfl) ?hq32 (by assumption) ?rq32
        case hq32 => (intro W hSw; (try dsimp only at hSw); go_simp <;> with_reducible rfl)
        (try simp only [Act.put, List.setIfInBounds_toArray, List.set_cons_zero, List.set_cons_succ])
        refine ordM_take 23 ?vq33 rfl (by kernel_rfl) (by kernel_rfl) (by kernel_rfl) (by kernel_rfl) (fun _ _ _ h => h) (by rfl) ?hq33 (by assumption) ?rq33
        case hq33 => (intro W hSw; (try dsimp only at hSw); go_simp <;> with_reducible rfl)
        (try simp only [Act.put, List.setIfInBounds_toArray, List.set_cons_zero, List.set_cons_succ])
        refine ordM_done (by kernel_rfl) ?_ _
        refine NoPanic.normal ?_
        go_wp2_with (at_mapUpdate; refine wpList_putU _ rfl _ _ _ rfl gm k l.length f rfl hJd.map ?m0 x true rfl ?m1 rfl ?_)
        case m0 => unfold maxLen; omega
        case m1 => exact hx
        intro w6 hM6 hg6
        have hM7 : MapU w6 gm (k + 1) (fun y => if y = x then some true else f y) l'.length := by simpa [hll, hfx] using hM6
        have hJ6 := SoIn.put hJd hM7 hg6
        have HF6 := soF HF hNX.mem
        clear hM6 hM7 hg6 hJd hJ hS3 hlk3 hlkd
        go_wp2_with fail
        go_roundw
        case rel => exact ⟨k + 1, v', l', _, by omega, by omega, by go_num, hJ6, HF6, by omega⟩
        case measure => simp [intOf]; omega
      · have hfx : f x = none := by
          rcases HF.out x with ⟨_, h⟩ | ⟨h, _⟩
          · exact absurd h hxl
          · exact h
        have hlk3 := hJ.map.eq hx
        rw [hfx] at hlk3
        have hlkd := hJd.map.eq hx
        rw [hfx] at hlkd
        simp only [Option.getD] at hlk3 hlkd
        have hS3 := And.intro (hcW w3.drew hJd.bel) (And.intro (AtS.drew hC).cells2.1 hlkd)
        clear hcW
        go_upto_region 12 with fail
        refine wp_region_noPanic ?_
        refine ordM_begin (fun W : World => W.cell? ⟨ab, off + k, none⟩ = some (.int .u32 x) ∧ W.cell? ⟨gc, 0, none⟩ = some (.int .i64 2) ∧ (Instr.lookup 45 (.map (some gm)) (.int .u32 x) false).run Try.prog W = .ok (.bool false) W) (fun i => false) (by kernel_rfl) hS3 ?_
        refine ordM_take 0 ?vq34 rfl (by kernel_rfl) (by kernel_rfl) (by kernel_rfl) (by kernel_rfl) (fun _ _ _ h => h) (by rfl) ?hq34 (by assumption) ?rq34
        case hq34 => (intro W hSw; (try dsimp only at hSw); go_simp <;> with_reducible rfl)
        (try simp only [Act.put, List.setIfInBounds_toArray, List.set_cons_zero, List.set_cons_succ])
        refine ordM_take 1 ?vq35 rfl (by kernel_rfl) (by kernel_rfl) (by kernel_rfl) (by kernel_rfl) (fun _ _ _ h => h) (by rfl) ?hq35 (by assumption) ?rq35
        case hq35 => (intro W hSw; (try dsimp only at hSw); go_simp <;> with_reducible rfl)
        (try simp only [Act.put, List.setIfInBounds_toArray, List.set_cons_zero, List.set_cons_succ])
        refine ordM_take 2 ?vq36 rfl (by kernel_rfl) (by kernel_rfl) (by kernel_rfl) (by kernel_rfl) (fun _ _ _ h => h) (by rfl) ?hq36 (by assumption) ?rq36
        case hq36 => (intro W hSw; (try dsimp only at hSw); go_simp <;> with_reducible rfl)
        (try simp only [Act.put, List.setIfInBounds_toArray, List.set_cons_zero, List.set_cons_succ])
        refine ordM_take 3 ?vq37 rfl (by kernel_rfl) (by kernel_rfl) (by kernel_rfl) (by kernel_rfl) (fun _ _ _ h => h) (by rfl) ?hq37 (by assumption) ?rq37
        case hq37 => (intro W hSw; (try dsimp only at hSw); go_simp <;> with_reducible rfl)
        (try simp only [Act.put, List.setIfInBounds_toArray, List.set_cons_zero, List.set_cons_succ])
        refine ordM_take 4 ?vq38 rfl (by kernel_rfl) (by kernel_rfl) (by kernel_rfl) (by kernel_rfl) (fun _ _ _ h => h) (by rfl) ?hq38 (by assumption) ?rq38
        case hq38 => (intro W hSw; (try dsimp only at hSw); go_simp <;> with_reducible rfl)
        (try simp only [Act.put, List.setIfInBounds_toArray, List.set_cons_zero, List.set_cons_succ])
        refine ordM_take 5 ?vq39 rfl (by kernel_rfl) (by kernel_rfl) (by kernel_rfl) (by kernel_rfl) (fun _ _ _ h => h) (by rfl) ?hq39 (by assumption) ?rq39
        case hq39 => (intro W hSw; (try dsimp only at hSw); go_simp <;> with_reducible rfl)
        (try simp only [Act.put, List.setIfInBounds_toArray, List.set_cons_zero, List.set_cons_succ])
        refine ordM_take 6 ?vq40 rfl (by kernel_rfl) (by kernel_rfl) (by kernel_rfl) (by kernel_rfl) (fun _ _ _ h => h) (by rfl) ?hq40 (by assumption) ?rq40
        case hq40 => (intro W hSw; (try dsimp only at hSw); go_simp <;> with_reducible rfl)
        (try simp only [Act.put, List.setIfInBounds_toArray, List.set_cons_zero, List.set_cons_succ])
        refine ordM_take 7 ?vq41 rfl (by kernel_rfl) (by kernel_rfl) (by kernel_rfl) (by kernel_rfl) (fun _ _ _ h => h) (by rfl) ?hq41 (by assumption) ?rq41
        case hq41 => (intro W hSw; (try dsimp only at hSw); go_simp <;> with_reducible rfl)
        (try simp only [Act.put, List.setIfInBounds_toArray, List.set_cons_zero, List.set_cons_succ])
        refine ordM_take 8 ?vq42 rfl (by kernel_rfl) (by kernel_rfl) (by kernel_rfl) (by kernel_rfl) (fun _ _ _ h => h) (by rfl) ?hq42 (by assumption) ?rq42
        case hq42 => (intro W hSw; (try dsimp only at hSw); go_simp <;> with_reducible rfl)
        (try simp only [Act.put, List.setIfInBounds_toArray, List.set_cons_zero, List.set_cons_succ])
        refine ordM_take 9 ?vq43 rfl (by kernel_rfl) (by kernel_rfl) (by kernel_rfl) (by kernel_rfl) (fun _ _ _ h => h) (by rfl) ?hq43 (by assumption) ?rq43
        case hq43 => (intro W hSw; (try dsimp only at hSw); go_simp <;> with_reducible rfl)
        (try simp only [Act.put, List.setIfInBounds_toArray, List.set_cons_zero, List.set_cons_succ])
        refine ordM_take 10 ?vq44 rfl (by kernel_rfl) (by kernel_rfl) (by kernel_rfl) (by kernel_rfl) (fun _ _ _ h => h) (by rfl) ?hq44 (by assumption) ?rq44
        case hq44 => (intro W hSw; (try dsimp only at hSw); go_simp <;> with_reducible rfl)
        (try simp only [Act.put, List.setIfInBounds_toArray, List.set_cons_zero, List.set_cons_succ])
        refine ordM_take 11 ?vq45 rfl (by kernel_rfl) (by kernel_rfl) (by kernel_rfl) (by kernel_rfl) (fun _ _ _ h => h) (by rfl) ?hq45 (by assumption) ?rq45
        case hq45 => (intro W hSw; (try dsimp only at hSw); go_simp <;> with_reducible rfl)
        (try simp only [Act.put, List.setIfInBounds_toArray, List.set_cons_zero, List.set_cons_succ])
        refine ordM_take 12 ?vq46 rfl (by kernel_rfl) (by kernel_rfl) (by kernel_rfl) (by kernel_rfl) (fun _ _ _ h => h) (by rfl) ?hq46 (by assumption) ?rq46
        case hq46 => (intro W hSw; (try dsimp only at hSw); go_simp <;> with_reducible rfl)
        (try simp only [Act.put, List.setIfInBounds_toArray, List.set_cons_zero, List.set_cons_succ])
        refine ordM_take 13 ?vq47 rfl (by kernel_rfl) (by kernel_rfl) (by kernel_rfl) (by kernel_rfl) (fun _ _ _ h => h) (by rfl) ?hq47 (by assumption) ?rq47
        case hq47 => (intro W hSw; (try dsimp only at hSw); go_simp <;> with_reducible rfl)
        (try simp only [Act.put, List.setIfInBounds_toArray, List.set_cons_zero, List.set_cons_succ])
        refine ordM_take 14 ?vq48 rfl (by kernel_rfl) (by kernel_rfl) (by kernel_rfl) (by kernel_rfl) (fun _ _ _ h => h) (by rfl) ?hq48 (by assumption) ?rq48
        case hq48 => (intro W hSw; (try dsimp only at hSw); go_simp <;> with_reducible rfl)
        (try simp only [Act.put, List.setIfInBounds_toArray, List.set_cons_zero, List.set_cons_succ])
        refine ordM_take 15 ?vq49 rfl (by kernel_rfl) (by kernel_rfl) (by kernel_rfl) (by kernel_rfl) (fun _ _ _ h => h) (by rfl) ?hq49 (by assumption) ?rq49
        case hq49 => (intro W hSw; (try dsimp only at hSw); go_simp <;> with_reducible rfl)
        (try simp only [Act.put, List.setIfInBounds_toArray, List.set_cons_zero, List.set_cons_succ])
        refine ordM_take 16 ?vq50 rfl (by kernel_rfl) (by kernel_rfl) (by kernel_rfl) (by kernel_rfl) (fun _ _ _ h => h) (by rfl) ?hq50 (by assumption) ?rq50
        case hq50 => (intro W hSw; (try dsimp only at hSw); go_simp <;> with_reducible rfl)
        (try simp only [Act.put, List.setIfInBounds_toArray, List.set_cons_zero, List.set_cons_succ])
        refine ordM_take 17 ?vq51 rfl (by kernel_rfl) (by kernel_rfl) (by kernel_rfl) (by kernel_rfl) (fun _ _ _ h => h) (by rfl) ?hq51 (by assumption) ?rq51
        case hq51 => (intro W hSw; (try dsimp only at hSw); go_simp <;> with_reducible rfl)
        (try simp only [Act.put, List.setIfInBounds_toArray, List.set_cons_zero, List.set_cons_succ])
        refine ordM_take 18 ?vq52 rfl (by kernel_rfl) (by kernel_rfl) (by kernel_rfl) (by kernel_rfl) (fun _ _ _ h => h) (by rfl) ?hq52 (by assumption) ?rq52
        case hq52 => (intro W hSw; (try dsimp only at hSw); go_simp <;> with_reducible rfl)
        (try simp only [Act.put, List.setIfInBounds_toArray, List.set_cons_zero, List.set_cons_succ])
        refine ordM_take 19 ?vq53 rfl (by kernel_rfl) (by kernel_rfl) (by kernel_rfl) (by kernel_rfl) (fun _ _ _ h => h) (by rfl) ?hq53 (by assumption) ?rq53
        case hq53 => (intro W hSw; (try dsimp only at hSw); go_simp <;> with_reducible rfl)
        (try simp only [Act.put, List.setIfInBounds_toArray, List.set_cons_zero, List.set_cons_succ])
        refine ordM_take 20 ?vq54 rfl (by kernel_rfl) (by kernel_rfl) (by kernel_rfl) (by kernel_rfl) (fun _ _ _ h => h) (by rfl) ?hq54 (by assumption) ?rq54
        case hq54 => (intro W hSw; (try dsimp only at hSw); go_simp <;> with_reducible rfl)
        (try simp only [Act.put, List.setIfInBounds_toArray, List.set_cons_zero, List.set_cons_succ])
        refine ordM_take 21 ?vq55 rfl (by kernel_rfl) (by kernel_rfl) (by kernel_rfl) (by kernel_rfl) (fun _ _ _ h => h) (by rfl) ?hq55 (by assumption) ?rq55
        case hq55 => (intro W hSw; (try dsimp only at hSw); go_simp <;> with_reducible rfl)
        (try simp only [Act.put, List.setIfInBounds_toArray, List.set_cons_zero, List.set_cons_succ])
        refine ordM_take 22 ?vq56 rfl (by kernel_rfl) (by kernel_rfl) (by kernel_rfl) (by kernel_rfl) (fun _ _ _ h => h) (by rfl) ?hq56 (by assumption) ?rq56
        case hq56 => (intro W hSw; (try dsimp only at hSw); go_simp <;> with_reducible rfl)
        (try simp only [Act.put, List.setIfInBounds_toArray, List.set_cons_zero, List.set_cons_succ])
        refine ordM_take 23 ?vq57 rfl (by kernel_rfl) (by kernel_rfl) (by kernel_rfl) (by kernel_rfl) (fun _ _ _ h => h) (by rfl) ?hq57 (by assumption) ?rq57
        case hq57 => (intro W hSw; (try dsimp only at hSw); go_simp <;> with_reducible rfl)
        (try simp only [Act.put, List.setIfInBounds_toArray, List.set_cons_zero, List.set_cons_succ])
        refine ordM_done (by kernel_rfl) ?_ _
        refine NoPanic.normal ?_
        go_wp2_with (at_mapUpdate; refine wpList_putU _ rfl _ _ _ rfl gm k l.length f rfl hJd.map ?m0 x true rfl ?m1 rfl ?_)
        case m0 => unfold maxLen; omega
        case m1 => exact hx
        intro w6 hM6 hg6
        have hM7 : MapU w6 gm (k + 1) (fun y => if y = x then some true else f y) l'.length := by simpa [hll, hfx] using hM6
        have hJ6 := SoIn.put hJd hM7 hg6
        have HF6 := soF HF hNX.mem
        clear hM6 hM7 hg6 hJd hJ hS3 hlk3 hlkd
        go_wp2_with fail
        go_roundw
        case rel => exact ⟨k + 1, v', l', _, by omega, by omega, by go_num, hJ6, HF6, by omega⟩
        case measure => simp [intOf]; omega
    · by_cases hk1 : k < es.length
      · have hk2 : k = 40 := by omega
        subst hk2
        go_upto_region 15 with fail
        have hl40 : l.length ≤ 40 := by omega
        obtain ⟨s1, s2⟩ := bOne_sums hI.one
        have hff := fun (x : BF) (hx : x ∈ l) => (hI.one x hx).f
        have HP1 := Lib.hid (bfPlay_any hI.bin (T + 4) 5 9 (by omega) (by omega) (by omega) (fun y hy => by have := hff y hy; omega) (by decide) (by decide))
        go_wp2_with fail
        refine HP1.out.mono ?_
        rintro e w4 ⟨k4, pv, dv, v4, hPl, rfl, hp4, hd4, hI4, hK4, hB4⟩
        have hk0 := playNone hPl hI.one (am_in _ _ _ (by omega) (by omega))
        subst hk0
        have hM4 := hI.map.same (hK4.block _ hI.map.lt hI.out)
        have ho4 : ¬ Foot gb v4 (l.drop 0) gm := fun e => (hK4.foot _ e).elim hI.out (fun e => by have := hI.map.lt; omega)
        have hb4 := hI.bel.trans (hB4.mono hI.gB)
        simp only [List.take_zero, List.filter_nil, List.length_nil, List.drop_zero] at hp4 hd4 hI4 ho4
        obtain ⟨pa, pc, rfl⟩ := hp4.formG
        obtain ⟨da, dc, rfl⟩ := hd4.formG
        have HP2 := Lib.hid (bfPlay_any hI4 (T + 5) 5 9 (by omega) (by omega) (by omega) (fun y hy => by have := hff y hy; omega) (by decide) (by decide))
        have hone := hI.one
        have hgB := hI.gB
        have hgm := hI.gg
        clear hPl hp4 hd4 hI HP1 hK4 hB4
        go_wp2_with fail
        refine HP2.out.mono ?_
        rintro e w5 ⟨k5, pv, dv, v5, hPl, rfl, hp5, hd5, hI5, hK5, hB5⟩
        obtain ⟨hk5, hf1, hf2⟩ := playAll hPl hone (am_in _ _ _ (by omega) (by omega))
        rw [hf1] at hp5 hI5
        rw [hf2] at hd5 hI5
        subst hk5
        have hM5 := hM4.same (hK5.block _ hM4.lt ho4)
        have hb5 := hb4.trans (hB5.mono hgB)
        have hup := hI4.up.up
        have HTB : Hid (∀ x ∈ l, (Lit.int .u32 x.t).wf = true) := Lib.hid (fun x hx => by have h1 := hI4.up.tb x hx; have h2 := hI4.up.lo x hx; have h3 := hI4.up.l0; simp [Lit.wf, IntKind.min, IntKind.max, IntKind.bits, IntKind.signed]; omega)
        obtain ⟨da5, dc5, rfl⟩ := hd5.formG
        obtain ⟨a5, c5, rfl⟩ := hp5.formG
        have hln := fun ty => hM5.len ty
        generalize hw4 : w4.heap.size = B4 at hp5
        have HW4 := Lib.hid hw4
        have hlc : l.length ≤ c5 ∧ c5 ≤ maxLen := soCap hp5
        clear hPl HP2 hI4 hK5 hB5 hM4 ho4 hb4 hd5 hw4
        go_wp2_with fail
        go_loopw [109] (fun i wz => ∃ j : Nat, j ≤ l.length ∧ i = .int .i64 j ∧ Below w5.heap.size w5 wz) (fun i _ => l.length - (intOf i).toNat)
        case atStart => exact ⟨0, Nat.zero_le _, rfl, Below.refl _ _⟩
        case round =>
          obtain ⟨j, hj, rfl, hbz⟩ := hrel
          rename World => wz
          have hpz := hp5.later hbz
          have hMz := hM5.same (hbz.block _ hM5.lt)
          have hIz := hI5.later hbz
          have hbw := hb5.trans (hbz.mono (Nat.le_trans hgm (Nat.le_of_lt hM5.lt)))
          by_cases hjl : j < l.length
          · have hxj := List.getElem?_eq_getElem hjl
            obtain ⟨ga, off, cc, hpv, _, _, _, _, hcl⟩ := hpz.1.cells (by omega)
            cases hpv
            obtain ⟨r0, r1⟩ := bfFs_at hxj
            have hox := hone _ (List.mem_of_getElem? hxj)
            rw [bfD_one hox] at r1
            have q0 : wz.cell? ⟨ga, off + j * 2, none⟩ = some (.int .u32 l[j].t) := (hcl _ _ r0).1
            have q1 : wz.cell? ⟨ga, off + j * 2 + 1, none⟩ = some (.string (soD l[j].t)) := (hcl _ _ r1).1
            have hfx : f l[j].t = some true := by
              rcases HF.out l[j].t with ⟨h, _⟩ | ⟨_, h⟩
              · exact h
              · exact absurd (List.mem_map.2 ⟨_, List.mem_of_getElem? hxj, rfl⟩) h
            have htb := hIz
            have hxw : (Lit.int .u32 l[j].t).wf = true := HTB.out _ (List.mem_of_getElem? hxj)
            have hlk := fun (W : World) (h : Below wz.heap.size wz W) => by
              have := (hMz.same (h.block _ hMz.lt)).eq hxw
              rw [hfx] at this
              exact this
            have HPV : Hid (∀ i : Nat, j = i + 1 → ∃ y : Int, decide (l[j].t ≤ y) = false ∧ ∀ W : World, Below wz.heap.size wz W → W.cell? ⟨ga, off + i * 2, none⟩ = some (.int .u32 y)) := Lib.hid (fun i e => by
              have hil : i < l.length := by omega
              have hyi : l[i]? = some l[i] := List.getElem?_eq_getElem hil
              obtain ⟨r, _⟩ := bfFs_at hyi
              have := (List.pairwise_iff_getElem.1 hup) i j hil hjl (by omega)
              refine ⟨l[i].t, by rw [decide_eq_false_iff_not]; omega, fun W h => ?_⟩
              obtain ⟨ga', off', cc', hpv', _, _, _, _, hcl'⟩ := (hpz.later h).1.cells (by omega)
              cases hpv'
              exact (hcl' _ _ r).1)
            generalize l[j].t = x at *
            generalize hsx : soD x = sx at *
            have HSX := Lib.hid hsx.symm
            clear hsx
            have j0 : (0 : Int) ≤ (j : Int) := by omega
            have j1 : (j : Int) < (l.length : Int) := by omega
            clear hcl r0 r1 hox hpz hxj htb
            have hal : Below wz.heap.size wz (wz.alloc (.cells #[.int .u32 x, .string (sx)] 51)) := (Below.refl _ _).alloc (Nat.le_refl _) _
            have hF := atS_new 51 wz _ #[.int .u32 x, .string (sx)] rfl
            go_upto_region 22 with fail
            generalize (wz.alloc (.cells #[.int .u32 x, .string (sx)] 51)) = wf at hal hF ⊢
            have HS : ∀ W : World, Below wf.heap.size wf W → W.cell? ⟨wz.heap.size, 0, none⟩ = some (.int .u32 x) ∧ W.cell? ⟨wz.heap.size, 1, none⟩ = some (.string (sx)) ∧ (Instr.lookup 45 (.map (some gm)) (.int .u32 x) false).run Try.prog W = .ok (.bool true) W := fun W h => ⟨(AtS.later hF h).cells2.1, (AtS.later hF h).cells2.2, hlk W (hal.trans (h.mono hal.size))⟩
            have hbf : Below w5.heap.size w5 wf := hbz.trans (hal.mono hbz.size)
            have HP : ∀ i, j = i + 1 → ∃ y : Int, decide (x ≤ y) = false ∧ ∀ W : World, Below wf.heap.size wf W → W.cell? ⟨ga, off + i * 2, none⟩ = some (.int .u32 y) := fun i e => by
              obtain ⟨y, h1, h2⟩ := HPV.out i e
              exact ⟨y, h1, fun W h => h2 W (hal.trans (h.mono hal.size))⟩
            clear HPV hlk hMz hIz hbw hal q0 q1 hbz
            generalize wz.heap.size = gf at hF HS ⊢
            rcases j with _ | i
            · have HT := HS
              clear HP
              have hS0 := HT wf.drew (Below.refl wf.heap.size wf).drew
              refine wp_region_noPanic ?_
              refine ordM_begin (fun W : World => W.cell? ⟨gf, 0, none⟩ = some (.int .u32 x) ∧ W.cell? ⟨gf, 1, none⟩ = some (.string (sx)) ∧ (Instr.lookup 45 (.map (some gm)) (.int .u32 x) false).run Try.prog W = .ok (.bool true) W) (fun i => false) (by kernel_rfl) hS0 ?_
              refine ordM_take 0 ?vq66 rfl (by kernel_rfl) (by kernel_rfl) (by kernel_rfl) (by kernel_rfl) (fun _ _ _ h => h) (by rfl) ?hq66 (by assumption) ?rq66
              case hq66 => (intro W hSw; (try dsimp only at hSw); go_simp <;> with_reducible rfl)
              (try simp only [Act.put, List.setIfInBounds_toArray, List.set_cons_zero, List.set_cons_succ])
              refine ordM_take 1 ?vq67 rfl (by kernel_rfl) (by kernel_rfl) (by kernel_rfl) (by kernel_rfl) (fun _ _ _ h => h) (by rfl) ?hq67 (by assumption) ?rq67
              case hq67 => (intro W hSw; (try dsimp only at hSw); go_simp <;> with_reducible rfl)
              (try simp only [Act.put, List.setIfInBounds_toArray, List.set_cons_zero, List.set_cons_succ])
              refine ordM_take 2 ?vq68 rfl (by kernel_rfl) (by kernel_rfl) (by kernel_rfl) (by kernel_rfl) (fun _ _ _ h => h) (by rfl) ?hq68 (by assumption) ?rq68
              case hq68 => (intro W hSw; (try dsimp only at hSw); go_simp <;> with_reducible rfl)
              (try simp only [Act.put, List.setIfInBounds_toArray, List.set_cons_zero, List.set_cons_succ])
              refine ordM_take 3 ?vq69 rfl (by kernel_rfl) (by kernel_rfl) (by kernel_rfl) (by kernel_rfl) (fun _ _ _ h => h) (by rfl) ?hq69 (by assumption) ?rq69
              case hq69 => (intro W hSw; (try dsimp only at hSw); go_simp <;> with_reducible rfl)
              (try simp only [Act.put, List.setIfInBounds_toArray, List.set_cons_zero, List.set_cons_succ])
              refine ordM_take 4 ?vq70 rfl (by kernel_rfl) (by kernel_rfl) (by kernel_rfl) (by kernel_rfl) (fun _ _ _ h => h) (by rfl) ?hq70 (by assumption) ?rq70
              case hq70 => (intro W hSw; (try dsimp only at hSw); go_simp <;> with_reducible rfl)
              (try simp only [Act.put, List.setIfInBounds_toArray, List.set_cons_zero, List.set_cons_succ])
              refine ordM_take 5 ?vq71 rfl (by kernel_rfl) (by kernel_rfl) (by kernel_rfl) (by kernel_rfl) (fun _ _ _ h => h) (by rfl) ?hq71 (by assumption) ?rq71
              case hq71 => (intro W hSw; (try dsimp only at hSw); go_simp <;> with_reducible rfl)
              (try simp only [Act.put, List.setIfInBounds_toArray, List.set_cons_zero, List.set_cons_succ])
              refine ordM_take 6 ?vq72 rfl (by kernel_rfl) (by kernel_rfl) (by kernel_rfl) (by kernel_rfl) (fun _ _ _ h => h) (by rfl) ?hq72 (by assumption) ?rq72
              case hq72 => (intro W hSw; (try dsimp only at hSw); go_simp <;> with_reducible rfl)
              (try simp only [Act.put, List.setIfInBounds_toArray, List.set_cons_zero, List.set_cons_succ])
              refine ordM_take 7 ?vq73 rfl (by kernel_rfl) (by kernel_rfl) (by kernel_rfl) (by kernel_rfl) (fun _ _ _ h => h) (by rfl) ?hq73 (by assumption) ?rq73
              case hq73 => (intro W hSw; (try dsimp only at hSw); go_simp <;> with_reducible rfl)
              (try simp only [Act.put, List.setIfInBounds_toArray, List.set_cons_zero, List.set_cons_succ])
              refine ordM_take 8 ?vq74 rfl (by kernel_rfl) (by kernel_rfl) (by kernel_rfl) (by kernel_rfl) (fun _ _ _ h => h) (by rfl) ?hq74 (by assumption) ?rq74
              case hq74 => (intro W hSw; (try dsimp only at hSw); go_simp <;> with_reducible rfl)
              (try simp only [Act.put, List.setIfInBounds_toArray, List.set_cons_zero, List.set_cons_succ])
              refine ordM_take 9 ?vq75 rfl (by kernel_rfl) (by kernel_rfl) (by kernel_rfl) (by kernel_rfl) (fun _ _ _ h => h) (by rfl) ?hq75 (by assumption) ?rq75
              case hq75 => (intro W hSw; (try dsimp only at hSw); go_simp <;> with_reducible rfl)
              (try simp only [Act.put, List.setIfInBounds_toArray, List.set_cons_zero, List.set_cons_succ])
              refine ordM_take 10 ?vq76 rfl (by kernel_rfl) (by kernel_rfl) (by kernel_rfl) (by kernel_rfl) (fun _ _ _ h => h) (by rfl) ?hq76 (by assumption) ?rq76
              case hq76 => (intro W hSw; (try dsimp only at hSw); go_simp <;> with_reducible rfl)
              (try simp only [Act.put, List.setIfInBounds_toArray, List.set_cons_zero, List.set_cons_succ])
              refine ordM_ready [11] (by kernel_rfl) (by simp) ?_
              refine AllReadyM.cons rfl (fun K hK => ?_) AllReadyM.nil
              go_simp
              have hbu : Below wf.heap.size wf (wf.alloc (.cells #[.int .u8 (IntKind.u8.wrap x)] 5)).drew := ((Below.refl _ _).alloc (Nat.le_refl _) _).drew
              have hU : (wf.alloc (.cells #[.int .u8 (IntKind.u8.wrap x)] 5)).drew.heap[wf.heap.size]? = some (.cells #[.int .u8 (IntKind.u8.wrap x)] 5 (0, 0)) := heap_alloc_new wf _
              have hS2 := HT _ hbu
              refine hK.out _ _ (fun _ => hS2) ?_
              clear hK K
              (try simp only [Act.put, List.setIfInBounds_toArray, List.set_cons_zero, List.set_cons_succ])
              generalize (wf.alloc (.cells #[.int .u8 (IntKind.u8.wrap x)] 5)).drew = w2 at hbu hU hS2 ⊢
              generalize hgu : wf.heap.size = gu at hU hbu ⊢
              have hcv : Sem.run Try.prog (convert 64 9 (.slice (some ⟨gu, 0, none⟩) 1 1)) w2 = Result.ok (.string sx) w2 := by rw [HSX.out]; exact so_conv w2 gu _ hU
              refine ordM_ready [12] (by kernel_rfl) (by simp) ?_
              refine AllReadyM.cons rfl (fun K hK => ?_) AllReadyM.nil
              go_simp
              refine hK.out _ _ (fun _ => hS2) ?_
              clear hK K
              (try simp only [Act.put, List.setIfInBounds_toArray, List.set_cons_zero, List.set_cons_succ])
              refine ordM_take 13 ?vq58 rfl (by kernel_rfl) (by kernel_rfl) (by kernel_rfl) (by kernel_rfl) (fun _ _ _ h => h) (by rfl) ?hq58 (by assumption) ?rq58
              case hq58 => (intro W hSw; (try dsimp only at hSw); go_simp <;> with_reducible rfl)
              (try simp only [Act.put, List.setIfInBounds_toArray, List.set_cons_zero, List.set_cons_succ])
              refine ordM_take 14 ?vq59 rfl (by kernel_rfl) (by kernel_rfl) (by kernel_rfl) (by kernel_rfl) (fun _ _ _ h => h) (by rfl) ?hq59 (by assumption) ?rq59
              case hq59 => (intro W hSw; (try dsimp only at hSw); go_simp <;> with_reducible rfl)
              (try simp only [Act.put, List.setIfInBounds_toArray, List.set_cons_zero, List.set_cons_succ])
              refine ordM_take 15 ?vq60 rfl (by kernel_rfl) (by kernel_rfl) (by kernel_rfl) (by kernel_rfl) (fun _ _ _ h => h) (by rfl) ?hq60 (by assumption) ?rq60
              case hq60 => (intro W hSw; (try dsimp only at hSw); go_simp <;> with_reducible rfl)
              (try simp only [Act.put, List.setIfInBounds_toArray, List.set_cons_zero, List.set_cons_succ])
              refine ordM_take 16 ?vq61 rfl (by kernel_rfl) (by kernel_rfl) (by kernel_rfl) (by kernel_rfl) (fun _ _ _ h => h) (by rfl) ?hq61 (by assumption) ?rq61
              case hq61 => (intro W hSw; (try dsimp only at hSw); go_simp <;> with_reducible rfl)
              (try simp only [Act.put, List.setIfInBounds_toArray, List.set_cons_zero, List.set_cons_succ])
              refine ordM_take 17 ?vq62 rfl (by kernel_rfl) (by kernel_rfl) (by kernel_rfl) (by kernel_rfl) (fun _ _ _ h => h) (by rfl) ?hq62 (by assumption) ?rq62
              case hq62 => (intro W hSw; (try dsimp only at hSw); go_simp <;> with_reducible rfl)
              (try simp only [Act.put, List.setIfInBounds_toArray, List.set_cons_zero, List.set_cons_succ])
              refine ordM_take 18 ?vq63 rfl (by kernel_rfl) (by kernel_rfl) (by kernel_rfl) (by kernel_rfl) (fun _ _ _ h => h) (by rfl) ?hq63 (by assumption) ?rq63
              case hq63 => (intro W hSw; (try dsimp only at hSw); go_simp <;> with_reducible rfl)
              (try simp only [Act.put, List.setIfInBounds_toArray, List.set_cons_zero, List.set_cons_succ])
              refine so_skip 19 rfl (by kernel_rfl) (by kernel_rfl) (by kernel_rfl) (by kernel_rfl) (fun _ _ _ h => h) (by rfl) (by assumption) ?_
              (try simp only [Act.put, List.setIfInBounds_toArray, List.set_cons_zero, List.set_cons_succ])
              refine so_skip 20 rfl (by kernel_rfl) (by kernel_rfl) (by kernel_rfl) (by kernel_rfl) (fun _ _ _ h => h) (by rfl) (by assumption) ?_
              (try simp only [Act.put, List.setIfInBounds_toArray, List.set_cons_zero, List.set_cons_succ])
              refine so_skip 21 rfl (by kernel_rfl) (by kernel_rfl) (by kernel_rfl) (by kernel_rfl) (fun _ _ _ h => h) (by rfl) (by assumption) ?_
              (try simp only [Act.put, List.setIfInBounds_toArray, List.set_cons_zero, List.set_cons_succ])
              refine so_skip 22 rfl (by kernel_rfl) (by kernel_rfl) (by kernel_rfl) (by kernel_rfl) (fun _ _ _ h => h) (by rfl) (by assumption) ?_
              (try simp only [Act.put, List.setIfInBounds_toArray, List.set_cons_zero, List.set_cons_succ])
              refine so_skip 23 rfl (by kernel_rfl) (by kernel_rfl) (by kernel_rfl) (by kernel_rfl) (fun _ _ _ h => h) (by rfl) (by assumption) ?_
              (try simp only [Act.put, List.setIfInBounds_toArray, List.set_cons_zero, List.set_cons_succ])
              refine so_skip 24 rfl (by kernel_rfl) (by kernel_rfl) (by kernel_rfl) (by kernel_rfl) (fun _ _ _ h => h) (by rfl) (by assumption) ?_
              (try simp only [Act.put, List.setIfInBounds_toArray, List.set_cons_zero, List.set_cons_succ])
              refine so_skip 25 rfl (by kernel_rfl) (by kernel_rfl) (by kernel_rfl) (by kernel_rfl) (fun _ _ _ h => h) (by rfl) (by assumption) ?_
              (try simp only [Act.put, List.setIfInBounds_toArray, List.set_cons_zero, List.set_cons_succ])
              refine so_skip 26 rfl (by kernel_rfl) (by kernel_rfl) (by kernel_rfl) (by kernel_rfl) (fun _ _ _ h => h) (by rfl) (by assumption) ?_
              (try simp only [Act.put, List.setIfInBounds_toArray, List.set_cons_zero, List.set_cons_succ])
              refine so_skip 27 rfl (by kernel_rfl) (by kernel_rfl) (by kernel_rfl) (by kernel_rfl) (fun _ _ _ h => h) (by rfl) (by assumption) ?_
              (try simp only [Act.put, List.setIfInBounds_toArray, List.set_cons_zero, List.set_cons_succ])
              refine ordM_take 28 ?vq64 rfl (by kernel_rfl) (by kernel_rfl) (by kernel_rfl) (by kernel_rfl) (fun _ _ _ h => h) (by rfl) ?hq64 (by assumption) ?rq64
              case hq64 => (intro W hSw; (try dsimp only at hSw); go_simp <;> with_reducible rfl)
              (try simp only [Act.put, List.setIfInBounds_toArray, List.set_cons_zero, List.set_cons_succ])
              refine ordM_take 29 ?vq65 rfl (by kernel_rfl) (by kernel_rfl) (by kernel_rfl) (by kernel_rfl) (fun _ _ _ h => h) (by rfl) ?hq65 (by assumption) ?rq65
              case hq65 => (intro W hSw; (try dsimp only at hSw); go_simp <;> with_reducible rfl)
              (try simp only [Act.put, List.setIfInBounds_toArray, List.set_cons_zero, List.set_cons_succ])
              refine ordM_done (by kernel_rfl) ?_ _
              refine NoPanic.normal ?_
              go_wp2_with fail
              go_roundw
              case rel => exact ⟨1, by omega, by go_num, hbf.trans (hbu.mono (by rw [← hgu]; exact hbf.size))⟩
              case measure => simp [intOf]; omega
            · obtain ⟨y, hdy, hcy⟩ := HP i rfl
              have HT : ∀ W : World, Below wf.heap.size wf W → W.cell? ⟨gf, 0, none⟩ = some (.int .u32 x) ∧ W.cell? ⟨gf, 1, none⟩ = some (.string (sx)) ∧ (Instr.lookup 45 (.map (some gm)) (.int .u32 x) false).run Try.prog W = .ok (.bool true) W ∧ W.cell? ⟨ga, off + i * 2, none⟩ = some (.int .u32 y) := fun W h => ⟨(HS W h).1, (HS W h).2.1, (HS W h).2.2, hcy W h⟩
              clear HP HS
              have k1 : (0 : Int) ≤ (i : Int) := by omega
              have k2 : (i : Int) < (l.length : Int) := by omega
              have hwi : IntKind.i64.wrap (i : Int) = (i : Int) := IntWalk.i64_in _ ⟨by omega, by omega⟩
              have hS0 := HT wf.drew (Below.refl wf.heap.size wf).drew
              refine wp_region_noPanic ?_
              refine ordM_begin (fun W : World => W.cell? ⟨gf, 0, none⟩ = some (.int .u32 x) ∧ W.cell? ⟨gf, 1, none⟩ = some (.string (sx)) ∧ (Instr.lookup 45 (.map (some gm)) (.int .u32 x) false).run Try.prog W = .ok (.bool true) W ∧ W.cell? ⟨ga, off + i * 2, none⟩ = some (.int .u32 y)) (fun i => false) (by kernel_rfl) hS0 ?_
              refine ordM_take 0 ?vq94 rfl (by kernel_rfl) (by kernel_rfl) (by kernel_rfl) (by kernel_rfl) (fun _ _ _ h => h) (by rfl) ?hq94 (by assumption) ?rq94
              case hq94 => (intro W hSw; (try dsimp only at hSw); go_simp <;> with_reducible rfl)
              (try simp only [Act.put, List.setIfInBounds_toArray, List.set_cons_zero, List.set_cons_succ])
              refine ordM_take 1 ?vq95 rfl (by kernel_rfl) (by kernel_rfl) (by kernel_rfl) (by kernel_rfl) (fun _ _ _ h => h) (by rfl) ?hq95 (by assumption) ?rq95
              case hq95 => (intro W hSw; (try dsimp only at hSw); go_simp <;> with_reducible rfl)
              (try simp only [Act.put, List.setIfInBounds_toArray, List.set_cons_zero, List.set_cons_succ])
              refine ordM_take 2 ?vq96 rfl (by kernel_rfl) (by kernel_rfl) (by kernel_rfl) (by kernel_rfl) (fun _ _ _ h => h) (by rfl) ?hq96 (by assumption) ?rq96
              case hq96 => (intro W hSw; (try dsimp only at hSw); go_simp <;> with_reducible rfl)
              (try simp only [Act.put, List.setIfInBounds_toArray, List.set_cons_zero, List.set_cons_succ])
              refine ordM_take 3 ?vq97 rfl (by kernel_rfl) (by kernel_rfl) (by kernel_rfl) (by kernel_rfl) (fun _ _ _ h => h) (by rfl) ?hq97 (by assumption) ?rq97
              case hq97 => (intro W hSw; (try dsimp only at hSw); go_simp <;> with_reducible rfl)
              (try simp only [Act.put, List.setIfInBounds_toArray, List.set_cons_zero, List.set_cons_succ])
              refine ordM_take 4 ?vq98 rfl (by kernel_rfl) (by kernel_rfl) (by kernel_rfl) (by kernel_rfl) (fun _ _ _ h => h) (by rfl) ?hq98 (by assumption) ?rq98
              case hq98 => (intro W hSw; (try dsimp only at hSw); go_simp <;> with_reducible rfl)
              (try simp only [Act.put, List.setIfInBounds_toArray, List.set_cons_zero, List.set_cons_succ])
              refine ordM_take 5 ?vq99 rfl (by kernel_rfl) (by kernel_rfl) (by kernel_rfl) (by kernel_rfl) (fun _ _ _ h => h) (by rfl) ?hq99 (by assumption) ?rq99
              case hq99 => (intro W hSw; (try dsimp only at hSw); go_simp <;> with_reducible rfl)
              (try simp only [Act.put, List.setIfInBounds_toArray, List.set_cons_zero, List.set_cons_succ])
              refine ordM_take 6 ?vq100 rfl (by kernel_rfl) (by kernel_rfl) (by kernel_rfl) (by kernel_rfl) (fun _ _ _ h => h) (by rfl) ?hq100 (by assumption) ?rq100
              case hq100 => (intro W hSw; (try dsimp only at hSw); go_simp <;> with_reducible rfl)
              (try simp only [Act.put, List.setIfInBounds_toArray, List.set_cons_zero, List.set_cons_succ])
              refine ordM_take 7 ?vq101 rfl (by kernel_rfl) (by kernel_rfl) (by kernel_rfl) (by kernel_rfl) (fun _ _ _ h => h) (by rfl) ?hq101 (by assumption) ?rq101
              case hq101 => (intro W hSw; (try dsimp only at hSw); go_simp <;> with_reducible rfl)
              (try simp only [Act.put, List.setIfInBounds_toArray, List.set_cons_zero, List.set_cons_succ])
              refine ordM_take 8 ?vq102 rfl (by kernel_rfl) (by kernel_rfl) (by kernel_rfl) (by kernel_rfl) (fun _ _ _ h => h) (by rfl) ?hq102 (by assumption) ?rq102
              case hq102 => (intro W hSw; (try dsimp only at hSw); go_simp <;> with_reducible rfl)
              (try simp only [Act.put, List.setIfInBounds_toArray, List.set_cons_zero, List.set_cons_succ])
              refine ordM_take 9 ?vq103 rfl (by kernel_rfl) (by kernel_rfl) (by kernel_rfl) (by kernel_rfl) (fun _ _ _ h => h) (by rfl) ?hq103 (by assumption) ?rq103
              case hq103 => (intro W hSw; (try dsimp only at hSw); go_simp <;> with_reducible rfl)
              (try simp only [Act.put, List.setIfInBounds_toArray, List.set_cons_zero, List.set_cons_succ])
              refine ordM_take 10 ?vq104 rfl (by kernel_rfl) (by kernel_rfl) (by kernel_rfl) (by kernel_rfl) (fun _ _ _ h => h) (by rfl) ?hq104 (by assumption) ?rq104
              case hq104 => (intro W hSw; (try dsimp only at hSw); go_simp <;> with_reducible rfl)
              (try simp only [Act.put, List.setIfInBounds_toArray, List.set_cons_zero, List.set_cons_succ])
              refine ordM_ready [11] (by kernel_rfl) (by simp) ?_
              refine AllReadyM.cons rfl (fun K hK => ?_) AllReadyM.nil
              go_simp
              have hbu : Below wf.heap.size wf (wf.alloc (.cells #[.int .u8 (IntKind.u8.wrap x)] 5)).drew := ((Below.refl _ _).alloc (Nat.le_refl _) _).drew
              have hU : (wf.alloc (.cells #[.int .u8 (IntKind.u8.wrap x)] 5)).drew.heap[wf.heap.size]? = some (.cells #[.int .u8 (IntKind.u8.wrap x)] 5 (0, 0)) := heap_alloc_new wf _
              have hS2 := HT _ hbu
              refine hK.out _ _ (fun _ => hS2) ?_
              clear hK K
              (try simp only [Act.put, List.setIfInBounds_toArray, List.set_cons_zero, List.set_cons_succ])
              generalize (wf.alloc (.cells #[.int .u8 (IntKind.u8.wrap x)] 5)).drew = w2 at hbu hU hS2 ⊢
              generalize hgu : wf.heap.size = gu at hU hbu ⊢
              have hcv : Sem.run Try.prog (convert 64 9 (.slice (some ⟨gu, 0, none⟩) 1 1)) w2 = Result.ok (.string sx) w2 := by rw [HSX.out]; exact so_conv w2 gu _ hU
              refine ordM_ready [12] (by kernel_rfl) (by simp) ?_
              refine AllReadyM.cons rfl (fun K hK => ?_) AllReadyM.nil
              go_simp
              refine hK.out _ _ (fun _ => hS2) ?_
              clear hK K
              (try simp only [Act.put, List.setIfInBounds_toArray, List.set_cons_zero, List.set_cons_succ])
              refine ordM_take 13 ?vq77 rfl (by kernel_rfl) (by kernel_rfl) (by kernel_rfl) (by kernel_rfl) (fun _ _ _ h => h) (by rfl) ?hq77 (by assumption) ?rq77
              case hq77 => (intro W hSw; (try dsimp only at hSw); go_simp <;> with_reducible rfl)
              (try simp only [Act.put, List.setIfInBounds_toArray, List.set_cons_zero, List.set_cons_succ])
              refine ordM_take 14 ?vq78 rfl (by kernel_rfl) (by kernel_rfl) (by kernel_rfl) (by kernel_rfl) (fun _ _ _ h => h) (by rfl) ?hq78 (by assumption) ?rq78
              case hq78 => (intro W hSw; (try dsimp only at hSw); go_simp <;> with_reducible rfl)
              (try simp only [Act.put, List.setIfInBounds_toArray, List.set_cons_zero, List.set_cons_succ])
              refine ordM_take 15 ?vq79 rfl (by kernel_rfl) (by kernel_rfl) (by kernel_rfl) (by kernel_rfl) (fun _ _ _ h => h) (by rfl) ?hq79 (by assumption) ?rq79
              case hq79 => (intro W hSw; (try dsimp only at hSw); go_simp <;> with_reducible rfl)
              (try simp only [Act.put, List.setIfInBounds_toArray, List.set_cons_zero, List.set_cons_succ])
              refine ordM_take 16 ?vq80 rfl (by kernel_rfl) (by kernel_rfl) (by kernel_rfl) (by kernel_rfl) (fun _ _ _ h => h) (by rfl) ?hq80 (by assumption) ?rq80
              case hq80 => (intro W hSw; (try dsimp only at hSw); go_simp <;> with_reducible rfl)
              (try simp only [Act.put, List.setIfInBounds_toArray, List.set_cons_zero, List.set_cons_succ])
              refine ordM_take 17 ?vq81 rfl (by kernel_rfl) (by kernel_rfl) (by kernel_rfl) (by kernel_rfl) (fun _ _ _ h => h) (by rfl) ?hq81 (by assumption) ?rq81
              case hq81 => (intro W hSw; (try dsimp only at hSw); go_simp <;> with_reducible rfl)
              (try simp only [Act.put, List.setIfInBounds_toArray, List.set_cons_zero, List.set_cons_succ])
              refine ordM_take 18 ?vq82 rfl (by kernel_rfl) (by kernel_rfl) (by kernel_rfl) (by kernel_rfl) (fun _ _ _ h => h) (by rfl) ?hq82 (by assumption) ?rq82
              case hq82 => (intro W hSw; (try dsimp only at hSw); go_simp <;> with_reducible rfl)
              (try simp only [Act.put, List.setIfInBounds_toArray, List.set_cons_zero, List.set_cons_succ])
              refine ordM_take 19 ?vq83 rfl (by kernel_rfl) (by kernel_rfl) (by kernel_rfl) (by kernel_rfl) (fun _ _ _ h => h) (by rfl) ?hq83 (by assumption) ?rq83
              case hq83 => (intro W hSw; (try dsimp only at hSw); go_simp <;> with_reducible rfl)
              (try simp only [Act.put, List.setIfInBounds_toArray, List.set_cons_zero, List.set_cons_succ])
              refine ordM_take 20 ?vq84 rfl (by kernel_rfl) (by kernel_rfl) (by kernel_rfl) (by kernel_rfl) (fun _ _ _ h => h) (by rfl) ?hq84 (by assumption) ?rq84
              case hq84 => (intro W hSw; (try dsimp only at hSw); go_simp <;> with_reducible rfl)
              (try simp only [Act.put, List.setIfInBounds_toArray, List.set_cons_zero, List.set_cons_succ])
              refine ordM_take 21 ?vq85 rfl (by kernel_rfl) (by kernel_rfl) (by kernel_rfl) (by kernel_rfl) (fun _ _ _ h => h) (by rfl) ?hq85 (by assumption) ?rq85
              case hq85 => (intro W hSw; (try dsimp only at hSw); go_simp <;> with_reducible rfl)
              (try simp only [Act.put, List.setIfInBounds_toArray, List.set_cons_zero, List.set_cons_succ])
              refine ordM_take 22 ?vq86 rfl (by kernel_rfl) (by kernel_rfl) (by kernel_rfl) (by kernel_rfl) (fun _ _ _ h => h) (by rfl) ?hq86 (by assumption) ?rq86
              case hq86 => (intro W hSw; (try dsimp only at hSw); go_simp <;> with_reducible rfl)
              (try simp only [Act.put, List.setIfInBounds_toArray, List.set_cons_zero, List.set_cons_succ])
              refine ordM_take 23 ?vq87 rfl (by kernel_rfl) (by kernel_rfl) (by kernel_rfl) (by kernel_rfl) (fun _ _ _ h => h) (by rfl) ?hq87 (by assumption) ?rq87
              case hq87 => (intro W hSw; (try dsimp only at hSw); go_simp <;> with_reducible rfl)
              (try simp only [Act.put, List.setIfInBounds_toArray, List.set_cons_zero, List.set_cons_succ])
              refine ordM_take 24 ?vq88 rfl (by kernel_rfl) (by kernel_rfl) (by kernel_rfl) (by kernel_rfl) (fun _ _ _ h => h) (by rfl) ?hq88 (by assumption) ?rq88
              case hq88 => (intro W hSw; (try dsimp only at hSw); go_simp <;> with_reducible rfl)
              (try simp only [Act.put, List.setIfInBounds_toArray, List.set_cons_zero, List.set_cons_succ])
              refine ordM_take 25 ?vq89 rfl (by kernel_rfl) (by kernel_rfl) (by kernel_rfl) (by kernel_rfl) (fun _ _ _ h => h) (by rfl) ?hq89 (by assumption) ?rq89
              case hq89 => (intro W hSw; (try dsimp only at hSw); go_simp <;> with_reducible rfl)
              (try simp only [Act.put, List.setIfInBounds_toArray, List.set_cons_zero, List.set_cons_succ])
              refine ordM_take 26 ?vq90 rfl (by kernel_rfl) (by kernel_rfl) (by kernel_rfl) (by kernel_rfl) (fun _ _ _ h => h) (by rfl) ?hq90 (by assumption) ?rq90
              case hq90 => (intro W hSw; (try dsimp only at hSw); go_simp <;> with_reducible rfl)
              (try simp only [Act.put, List.setIfInBounds_toArray, List.set_cons_zero, List.set_cons_succ])
              refine ordM_take 27 ?vq91 rfl (by kernel_rfl) (by kernel_rfl) (by kernel_rfl) (by kernel_rfl) (fun _ _ _ h => h) (by rfl) ?hq91 (by assumption) ?rq91
              case hq91 => (intro W hSw; (try dsimp only at hSw); go_simp <;> with_reducible rfl)
              (try simp only [Act.put, List.setIfInBounds_toArray, List.set_cons_zero, List.set_cons_succ])
              refine ordM_take 28 ?vq92 rfl (by kernel_rfl) (by kernel_rfl) (by kernel_rfl) (by kernel_rfl) (fun _ _ _ h => h) (by rfl) ?hq92 (by assumption) ?rq92
              case hq92 => (intro W hSw; (try dsimp only at hSw); go_simp <;> with_reducible rfl)
              (try simp only [Act.put, List.setIfInBounds_toArray, List.set_cons_zero, List.set_cons_succ])
              refine ordM_take 29 ?vq93 rfl (by kernel_rfl) (by kernel_rfl) (by kernel_rfl) (by kernel_rfl) (fun _ _ _ h => h) (by rfl) ?hq93 (by assumption) ?rq93
              case hq93 => (intro W hSw; (try dsimp only at hSw); go_simp <;> with_reducible rfl)
              (try simp only [Act.put, List.setIfInBounds_toArray, List.set_cons_zero, List.set_cons_succ])
              refine ordM_done (by kernel_rfl) ?_ _
              refine NoPanic.normal ?_
              go_wp2_with fail
              go_roundw
              case rel => exact ⟨i + 1 + 1, by omega, by go_num, hbf.trans (hbu.mono (by rw [← hgu]; exact hbf.size))⟩
              case measure => simp [intOf]; omega
          · obtain rfl : j = l.length := by omega
            have HL := Lib.hid (bfLen_q hIz)
            go_wp2_with fail
            refine HL.out.mono ?_
            rintro e w9 ⟨rfl, hq⟩
            subst hq
            go_wp2_with fail
            go_ret
            exact ⟨by simp, by rw [HG.out]; exact hbw⟩
      · have hk2 : k = es.length := by omega
        subst hk2
        go_upto_region 15 with fail
        have hl40 : l.length ≤ 40 := by omega
        obtain ⟨s1, s2⟩ := bOne_sums hI.one
        have hff := fun (x : BF) (hx : x ∈ l) => (hI.one x hx).f
        have HP1 := Lib.hid (bfPlay_any hI.bin (T + 4) 5 9 (by omega) (by omega) (by omega) (fun y hy => by have := hff y hy; omega) (by decide) (by decide))
        go_wp2_with fail
        refine HP1.out.mono ?_
        rintro e w4 ⟨k4, pv, dv, v4, hPl, rfl, hp4, hd4, hI4, hK4, hB4⟩
        have hk0 := playNone hPl hI.one (am_in _ _ _ (by omega) (by omega))
        subst hk0
        have hM4 := hI.map.same (hK4.block _ hI.map.lt hI.out)
        have ho4 : ¬ Foot gb v4 (l.drop 0) gm := fun e => (hK4.foot _ e).elim hI.out (fun e => by have := hI.map.lt; omega)
        have hb4 := hI.bel.trans (hB4.mono hI.gB)
        simp only [List.take_zero, List.filter_nil, List.length_nil, List.drop_zero] at hp4 hd4 hI4 ho4
        obtain ⟨pa, pc, rfl⟩ := hp4.formG
        obtain ⟨da, dc, rfl⟩ := hd4.formG
        have HP2 := Lib.hid (bfPlay_any hI4 (T + 5) 5 9 (by omega) (by omega) (by omega) (fun y hy => by have := hff y hy; omega) (by decide) (by decide))
        have hone := hI.one
        have hgB := hI.gB
        have hgm := hI.gg
        clear hPl hp4 hd4 hI HP1 hK4 hB4
        go_wp2_with fail
        refine HP2.out.mono ?_
        rintro e w5 ⟨k5, pv, dv, v5, hPl, rfl, hp5, hd5, hI5, hK5, hB5⟩
        obtain ⟨hk5, hf1, hf2⟩ := playAll hPl hone (am_in _ _ _ (by omega) (by omega))
        rw [hf1] at hp5 hI5
        rw [hf2] at hd5 hI5
        subst hk5
        have hM5 := hM4.same (hK5.block _ hM4.lt ho4)
        have hb5 := hb4.trans (hB5.mono hgB)
        have hup := hI4.up.up
        have HTB : Hid (∀ x ∈ l, (Lit.int .u32 x.t).wf = true) := Lib.hid (fun x hx => by have h1 := hI4.up.tb x hx; have h2 := hI4.up.lo x hx; have h3 := hI4.up.l0; simp [Lit.wf, IntKind.min, IntKind.max, IntKind.bits, IntKind.signed]; omega)
        obtain ⟨da5, dc5, rfl⟩ := hd5.formG
        obtain ⟨a5, c5, rfl⟩ := hp5.formG
        have hln := fun ty => hM5.len ty
        generalize hw4 : w4.heap.size = B4 at hp5
        have HW4 := Lib.hid hw4
        have hlc : l.length ≤ c5 ∧ c5 ≤ maxLen := soCap hp5
        clear hPl HP2 hI4 hK5 hB5 hM4 ho4 hb4 hd5 hw4
        go_wp2_with fail
        go_loopw [109] (fun i wz => ∃ j : Nat, j ≤ l.length ∧ i = .int .i64 j ∧ Below w5.heap.size w5 wz) (fun i _ => l.length - (intOf i).toNat)
        case atStart => exact ⟨0, Nat.zero_le _, rfl, Below.refl _ _⟩
        case round =>
          obtain ⟨j, hj, rfl, hbz⟩ := hrel
          rename World => wz
          have hpz := hp5.later hbz
          have hMz := hM5.same (hbz.block _ hM5.lt)
          have hIz := hI5.later hbz
          have hbw := hb5.trans (hbz.mono (Nat.le_trans hgm (Nat.le_of_lt hM5.lt)))
          by_cases hjl : j < l.length
          · have hxj := List.getElem?_eq_getElem hjl
            obtain ⟨ga, off, cc, hpv, _, _, _, _, hcl⟩ := hpz.1.cells (by omega)
            cases hpv
            obtain ⟨r0, r1⟩ := bfFs_at hxj
            have hox := hone _ (List.mem_of_getElem? hxj)
            rw [bfD_one hox] at r1
            have q0 : wz.cell? ⟨ga, off + j * 2, none⟩ = some (.int .u32 l[j].t) := (hcl _ _ r0).1
            have q1 : wz.cell? ⟨ga, off + j * 2 + 1, none⟩ = some (.string (soD l[j].t)) := (hcl _ _ r1).1
            have hfx : f l[j].t = some true := by
              rcases HF.out l[j].t with ⟨h, _⟩ | ⟨_, h⟩
              · exact h
              · exact absurd (List.mem_map.2 ⟨_, List.mem_of_getElem? hxj, rfl⟩) h
            have htb := hIz
            have hxw : (Lit.int .u32 l[j].t).wf = true := HTB.out _ (List.mem_of_getElem? hxj)
            have hlk := fun (W : World) (h : Below wz.heap.size wz W) => by
              have := (hMz.same (h.block _ hMz.lt)).eq hxw
              rw [hfx] at this
              exact this
            have HPV : Hid (∀ i : Nat, j = i + 1 → ∃ y : Int, decide (l[j].t ≤ y) = false ∧ ∀ W : World, Below wz.heap.size wz W → W.cell? ⟨ga, off + i * 2, none⟩ = some (.int .u32 y)) := Lib.hid (fun i e => by
              have hil : i < l.length := by omega
              have hyi : l[i]? = some l[i] := List.getElem?_eq_getElem hil
              obtain ⟨r, _⟩ := bfFs_at hyi
              have := (List.pairwise_iff_getElem.1 hup) i j hil hjl (by omega)
              refine ⟨l[i].t, by rw [decide_eq_false_iff_not]; omega, fun W h => ?_⟩
              obtain ⟨ga', off', cc', hpv', _, _, _, _, hcl'⟩ := (hpz.later h).1.cells (by omega)
              cases hpv'
              exact (hcl' _ _ r).1)
            generalize l[j].t = x at *
            generalize hsx : soD x = sx at *
            have HSX := Lib.hid hsx.symm
            clear hsx
            have j0 : (0 : Int) ≤ (j : Int) := by omega
            have j1 : (j : Int) < (l.length : Int) := by omega
            clear hcl r0 r1 hox hpz hxj htb
            have hal : Below wz.heap.size wz (wz.alloc (.cells #[.int .u32 x, .string (sx)] 51)) := (Below.refl _ _).alloc (Nat.le_refl _) _
            have hF := atS_new 51 wz _ #[.int .u32 x, .string (sx)] rfl
            go_upto_region 22 with fail
            generalize (wz.alloc (.cells #[.int .u32 x, .string (sx)] 51)) = wf at hal hF ⊢
            have HS : ∀ W : World, Below wf.heap.size wf W → W.cell? ⟨wz.heap.size, 0, none⟩ = some (.int .u32 x) ∧ W.cell? ⟨wz.heap.size, 1, none⟩ = some (.string (sx)) ∧ (Instr.lookup 45 (.map (some gm)) (.int .u32 x) false).run Try.prog W = .ok (.bool true) W := fun W h => ⟨(AtS.later hF h).cells2.1, (AtS.later hF h).cells2.2, hlk W (hal.trans (h.mono hal.size))⟩
            have hbf : Below w5.heap.size w5 wf := hbz.trans (hal.mono hbz.size)
            have HP : ∀ i, j = i + 1 → ∃ y : Int, decide (x ≤ y) = false ∧ ∀ W : World, Below wf.heap.size wf W → W.cell? ⟨ga, off + i * 2, none⟩ = some (.int .u32 y) := fun i e => by
              obtain ⟨y, h1, h2⟩ := HPV.out i e
              exact ⟨y, h1, fun W h => h2 W (hal.trans (h.mono hal.size))⟩
            clear HPV hlk hMz hIz hbw hal q0 q1 hbz
            generalize wz.heap.size = gf at hF HS ⊢
            rcases j with _ | i
            · have HT := HS
              clear HP
              have hS0 := HT wf.drew (Below.refl wf.heap.size wf).drew
              refine wp_region_noPanic ?_
              refine ordM_begin (fun W : World => W.cell? ⟨gf, 0, none⟩ = some (.int .u32 x) ∧ W.cell? ⟨gf, 1, none⟩ = some (.string (sx)) ∧ (Instr.lookup 45 (.map (some gm)) (.int .u32 x) false).run Try.prog W = .ok (.bool true) W) (fun i => false) (by kernel_rfl) hS0 ?_
              refine ordM_take 0 ?vq966 rfl (by kernel_rfl) (by kernel_rfl) (by kernel_rfl) (by kernel_rfl) (fun _ _ _ h => h) (by rfl) ?hq966 (by assumption) ?rq966
              case hq966 => (intro W hSw; (try dsimp only at hSw); go_simp <;> with_reducible rfl)
              (try simp only [Act.put, List.setIfInBounds_toArray, List.set_cons_zero, List.set_cons_succ])
              refine ordM_take 1 ?vq967 rfl (by kernel_rfl) (by kernel_rfl) (by kernel_rfl) (by kernel_rfl) (fun _ _ _ h => h) (by rfl) ?hq967 (by assumption) ?rq967
              case hq967 => (intro W hSw; (try dsimp only at hSw); go_simp <;> with_reducible rfl)
              (try simp only [Act.put, List.setIfInBounds_toArray, List.set_cons_zero, List.set_cons_succ])
              refine ordM_take 2 ?vq968 rfl (by kernel_rfl) (by kernel_rfl) (by kernel_rfl) (by kernel_rfl) (fun _ _ _ h => h) (by rfl) ?hq968 (by assumption) ?rq968
              case hq968 => (intro W hSw; (try dsimp only at hSw); go_simp <;> with_reducible rfl)
              (try simp only [Act.put, List.setIfInBounds_toArray, List.set_cons_zero, List.set_cons_succ])
              refine ordM_take 3 ?vq969 rfl (by kernel_rfl) (by kernel_rfl) (by kernel_rfl) (by kernel_rfl) (fun _ _ _ h => h) (by rfl) ?hq969 (by assumption) ?rq969
              case hq969 => (intro W hSw; (try dsimp only at hSw); go_simp <;> with_reducible rfl)
              (try simp only [Act.put, List.setIfInBounds_toArray, List.set_cons_zero, List.set_cons_succ])
              refine ordM_take 4 ?vq970 rfl (by kernel_rfl) (by kernel_rfl) (by kernel_rfl) (by kernel_rfl) (fun _ _ _ h => h) (by rfl) ?hq970 (by assumption) ?rq970
              case hq970 => (intro W hSw; (try dsimp only at hSw); go_simp <;> with_reducible rfl)
              (try simp only [Act.put, List.setIfInBounds_toArray, List.set_cons_zero, List.set_cons_succ])
              refine ordM_take 5 ?vq971 rfl (by kernel_rfl) (by kernel_rfl) (by kernel_rfl) (by kernel_rfl) (fun _ _ _ h => h) (by rfl) ?hq971 (by assumption) ?rq971
              case hq971 => (intro W hSw; (try dsimp only at hSw); go_simp <;> with_reducible rfl)
              (try simp only [Act.put, List.setIfInBounds_toArray, List.set_cons_zero, List.set_cons_succ])
              refine ordM_take 6 ?vq972 rfl (by kernel_rfl) (by kernel_rfl) (by kernel_rfl) (by kernel_rfl) (fun _ _ _ h => h) (by rfl) ?hq972 (by assumption) ?rq972
              case hq972 => (intro W hSw; (try dsimp only at hSw); go_simp <;> with_reducible rfl)
              (try simp only [Act.put, List.setIfInBounds_toArray, List.set_cons_zero, List.set_cons_succ])
              refine ordM_take 7 ?vq973 rfl (by kernel_rfl) (by kernel_rfl) (by kernel_rfl) (by kernel_rfl) (fun _ _ _ h => h) (by rfl) ?hq973 (by assumption) ?rq973
              case hq973 => (intro W hSw; (try dsimp only at hSw); go_simp <;> with_reducible rfl)
              (try simp only [Act.put, List.setIfInBounds_toArray, List.set_cons_zero, List.set_cons_succ])
              refine ordM_take 8 ?vq974 rfl (by kernel_rfl) (by kernel_rfl) (by kernel_rfl) (by kernel_rfl) (fun _ _ _ h => h) (by rfl) ?hq974 (by assumption) ?rq974
              case hq974 => (intro W hSw; (try dsimp only at hSw); go_simp <;> with_reducible rfl)
              (try simp only [Act.put, List.setIfInBounds_toArray, List.set_cons_zero, List.set_cons_succ])
              refine ordM_take 9 ?vq975 rfl (by kernel_rfl) (by kernel_rfl) (by kernel_rfl) (by kernel_rfl) (fun _ _ _ h => h) (by rfl) ?hq975 (by assumption) ?rq975
              case hq975 => (intro W hSw; (try dsimp only at hSw); go_simp <;> with_reducible rfl)
              (try simp only [Act.put, List.setIfInBounds_toArray, List.set_cons_zero, List.set_cons_succ])
              refine ordM_take 10 ?vq976 rfl (by kernel_rfl) (by kernel_rfl) (by kernel_rfl) (by kernel_rfl) (fun _ _ _ h => h) (by rfl) ?hq976 (by assumption) ?rq976
              case hq976 => (intro W hSw; (try dsimp only at hSw); go_simp <;> with_reducible rfl)
              (try simp only [Act.put, List.setIfInBounds_toArray, List.set_cons_zero, List.set_cons_succ])
              refine ordM_ready [11] (by kernel_rfl) (by simp) ?_
              refine AllReadyM.cons rfl (fun K hK => ?_) AllReadyM.nil
              go_simp
              have hbu : Below wf.heap.size wf (wf.alloc (.cells #[.int .u8 (IntKind.u8.wrap x)] 5)).drew := ((Below.refl _ _).alloc (Nat.le_refl _) _).drew
              have hU : (wf.alloc (.cells #[.int .u8 (IntKind.u8.wrap x)] 5)).drew.heap[wf.heap.size]? = some (.cells #[.int .u8 (IntKind.u8.wrap x)] 5 (0, 0)) := heap_alloc_new wf _
              have hS2 := HT _ hbu
              refine hK.out _ _ (fun _ => hS2) ?_
              clear hK K
              (try simp only [Act.put, List.setIfInBounds_toArray, List.set_cons_zero, List.set_cons_succ])
              generalize (wf.alloc (.cells #[.int .u8 (IntKind.u8.wrap x)] 5)).drew = w2 at hbu hU hS2 ⊢
              generalize hgu : wf.heap.size = gu at hU hbu ⊢
              have hcv : Sem.run Try.prog (convert 64 9 (.slice (some ⟨gu, 0, none⟩) 1 1)) w2 = Result.ok (.string sx) w2 := by rw [HSX.out]; exact so_conv w2 gu _ hU
              refine ordM_ready [12] (by kernel_rfl) (by simp) ?_
              refine AllReadyM.cons rfl (fun K hK => ?_) AllReadyM.nil
              go_simp
              refine hK.out _ _ (fun _ => hS2) ?_
              clear hK K
              (try simp only [Act.put, List.setIfInBounds_toArray, List.set_cons_zero, List.set_cons_succ])
              refine ordM_take 13 ?vq958 rfl (by kernel_rfl) (by kernel_rfl) (by kernel_rfl) (by kernel_rfl) (fun _ _ _ h => h) (by rfl) ?hq958 (by assumption) ?rq958
              case hq958 => (intro W hSw; (try dsimp only at hSw); go_simp <;> with_reducible rfl)
              (try simp only [Act.put, List.setIfInBounds_toArray, List.set_cons_zero, List.set_cons_succ])
              refine ordM_take 14 ?vq959 rfl (by kernel_rfl) (by kernel_rfl) (by kernel_rfl) (by kernel_rfl) (fun _ _ _ h => h) (by rfl) ?hq959 (by assumption) ?rq959
              case hq959 => (intro W hSw; (try dsimp only at hSw); go_simp <;> with_reducible rfl)
              (try simp only [Act.put, List.setIfInBounds_toArray, List.set_cons_zero, List.set_cons_succ])
              refine ordM_take 15 ?vq960 rfl (by kernel_rfl) (by kernel_rfl) (by kernel_rfl) (by kernel_rfl) (fun _ _ _ h => h) (by rfl) ?hq960 (by assumption) ?rq960
              case hq960 => (intro W hSw; (try dsimp only at hSw); go_simp <;> with_reducible rfl)
              (try simp only [Act.put, List.setIfInBounds_toArray, List.set_cons_zero, List.set_cons_succ])
              refine ordM_take 16 ?vq961 rfl (by kernel_rfl) (by kernel_rfl) (by kernel_rfl) (by kernel_rfl) (fun _ _ _ h => h) (by rfl) ?hq961 (by assumption) ?rq961
              case hq961 => (intro W hSw; (try dsimp only at hSw); go_simp <;> with_reducible rfl)
              (try simp only [Act.put, List.setIfInBounds_toArray, List.set_cons_zero, List.set_cons_succ])
              refine ordM_take 17 ?vq962 rfl (by kernel_rfl) (by kernel_rfl) (by kernel_rfl) (by kernel_rfl) (fun _ _ _ h => h) (by rfl) ?hq962 (by assumption) ?rq962
              case hq962 => (intro W hSw; (try dsimp only at hSw); go_simp <;> with_reducible rfl)
              (try simp only [Act.put, List.setIfInBounds_toArray, List.set_cons_zero, List.set_cons_succ])
              refine ordM_take 18 ?vq963 rfl (by kernel_rfl) (by kernel_rfl) (by kernel_rfl) (by kernel_rfl) (fun _ _ _ h => h) (by rfl) ?hq963 (by assumption) ?rq963
              case hq963 => (intro W hSw; (try dsimp only at hSw); go_simp <;> with_reducible rfl)
              (try simp only [Act.put, List.setIfInBounds_toArray, List.set_cons_zero, List.set_cons_succ])
              refine so_skip 19 rfl (by kernel_rfl) (by kernel_rfl) (by kernel_rfl) (by kernel_rfl) (fun _ _ _ h => h) (by rfl) (by assumption) ?_
              (try simp only [Act.put, List.setIfInBounds_toArray, List.set_cons_zero, List.set_cons_succ])
              refine so_skip 20 rfl (by kernel_rfl) (by kernel_rfl) (by kernel_rfl) (by kernel_rfl) (fun _ _ _ h => h) (by rfl) (by assumption) ?_
              (try simp only [Act.put, List.setIfInBounds_toArray, List.set_cons_zero, List.set_cons_succ])
              refine so_skip 21 rfl (by kernel_rfl) (by kernel_rfl) (by kernel_rfl) (by kernel_rfl) (fun _ _ _ h => h) (by rfl) (by assumption) ?_
              (try simp only [Act.put, List.setIfInBounds_toArray, List.set_cons_zero, List.set_cons_succ])
              refine so_skip 22 rfl (by kernel_rfl) (by kernel_rfl) (by kernel_rfl) (by kernel_rfl) (fun _ _ _ h => h) (by rfl) (by assumption) ?_
              (try simp only [Act.put, List.setIfInBounds_toArray, List.set_cons_zero, List.set_cons_succ])
              refine so_skip 23 rfl (by kernel_rfl) (by kernel_rfl) (by kernel_rfl) (by kernel_rfl) (fun _ _ _ h => h) (by rfl) (by assumption) ?_
              (try simp only [Act.put, List.setIfInBounds_toArray, List.set_cons_zero, List.set_cons_succ])
              refine so_skip 24 rfl (by kernel_rfl) (by kernel_rfl) (by kernel_rfl) (by kernel_rfl) (fun _ _ _ h => h) (by rfl) (by assumption) ?_
              (try simp only [Act.put, List.setIfInBounds_toArray, List.set_cons_zero, List.set_cons_succ])
              refine so_skip 25 rfl (by kernel_rfl) (by kernel_rfl) (by kernel_rfl) (by kernel_rfl) (fun _ _ _ h => h) (by rfl) (by assumption) ?_
              (try simp only [Act.put, List.setIfInBounds_toArray, List.set_cons_zero, List.set_cons_succ])
              refine so_skip 26 rfl (by kernel_rfl) (by kernel_rfl) (by kernel_rfl) (by kernel_rfl) (fun _ _ _ h => h) (by rfl) (by assumption) ?_
              (try simp only [Act.put, List.setIfInBounds_toArray, List.set_cons_zero, List.set_cons_succ])
              refine so_skip 27 rfl (by kernel_rfl) (by kernel_rfl) (by kernel_rfl) (by kernel_rfl) (fun _ _ _ h => h) (by rfl) (by assumption) ?_
              (try simp only [Act.put, List.setIfInBounds_toArray, List.set_cons_zero, List.set_cons_succ])
              refine ordM_take 28 ?vq964 rfl (by kernel_rfl) (by kernel_rfl) (by kernel_rfl) (by kernel_rfl) (fun _ _ _ h => h) (by rfl) ?hq964 (by assumption) ?rq964
              case hq964 => (intro W hSw; (try dsimp only at hSw); go_simp <;> with_reducible rfl)
              (try simp only [Act.put, List.setIfInBounds_toArray, List.set_cons_zero, List.set_cons_succ])
              refine ordM_take 29 ?vq965 rfl (by kernel_rfl) (by kernel_rfl) (by kernel_rfl) (by kernel_rfl) (fun _ _ _ h => h) (by rfl) ?hq965 (by assumption) ?rq965
              case hq965 => (intro W hSw; (try dsimp only at hSw); go_simp <;> with_reducible rfl)
              (try simp only [Act.put, List.setIfInBounds_toArray, List.set_cons_zero, List.set_cons_succ])
              refine ordM_done (by kernel_rfl) ?_ _
              refine NoPanic.normal ?_
              go_wp2_with fail
              go_roundw
              case rel => exact ⟨1, by omega, by go_num, hbf.trans (hbu.mono (by rw [← hgu]; exact hbf.size))⟩
              case measure => simp [intOf]; omega
            · obtain ⟨y, hdy, hcy⟩ := HP i rfl
              have HT : ∀ W : World, Below wf.heap.size wf W → W.cell? ⟨gf, 0, none⟩ = some (.int .u32 x) ∧ W.cell? ⟨gf, 1, none⟩ = some (.string (sx)) ∧ (Instr.lookup 45 (.map (some gm)) (.int .u32 x) false).run Try.prog W = .ok (.bool true) W ∧ W.cell? ⟨ga, off + i * 2, none⟩ = some (.int .u32 y) := fun W h => ⟨(HS W h).1, (HS W h).2.1, (HS W h).2.2, hcy W h⟩
              clear HP HS
              have k1 : (0 : Int) ≤ (i : Int) := by omega
              have k2 : (i : Int) < (l.length : Int) := by omega
              have hwi : IntKind.i64.wrap (i : Int) = (i : Int) := IntWalk.i64_in _ ⟨by omega, by omega⟩
              have hS0 := HT wf.drew (Below.refl wf.heap.size wf).drew
              refine wp_region_noPanic ?_
              refine ordM_begin (fun W : World => W.cell? ⟨gf, 0, none⟩ = some (.int .u32 x) ∧ W.cell? ⟨gf, 1, none⟩ = some (.string (sx)) ∧ (Instr.lookup 45 (.map (some gm)) (.int .u32 x) false).run Try.prog W = .ok (.bool true) W ∧ W.cell? ⟨ga, off + i * 2, none⟩ = some (.int .u32 y)) (fun i => false) (by kernel_rfl) hS0 ?_
              refine ordM_take 0 ?vq994 rfl (by kernel_rfl) (by kernel_rfl) (by kernel_rfl) (by kernel_rfl) (fun _ _ _ h => h) (by rfl) ?hq994 (by assumption) ?rq994
              case hq994 => (intro W hSw; (try dsimp only at hSw); go_simp <;> with_reducible rfl)
              (try simp only [Act.put, List.setIfInBounds_toArray, List.set_cons_zero, List.set_cons_succ])
              refine ordM_take 1 ?vq995 rfl (by kernel_rfl) (by kernel_rfl) (by kernel_rfl) (by kernel_rfl) (fun _ _ _ h => h) (by rfl) ?hq995 (by assumption) ?rq995
              case hq995 => (intro W hSw; (try dsimp only at hSw); go_simp <;> with_reducible rfl)
              (try simp only [Act.put, List.setIfInBounds_toArray, List.set_cons_zero, List.set_cons_succ])
              refine ordM_take 2 ?vq996 rfl (by kernel_rfl) (by kernel_rfl) (by kernel_rfl) (by kernel_rfl) (fun _ _ _ h => h) (by rfl) ?hq996 (by assumption) ?rq996
              case hq996 => (intro W hSw; (try dsimp only at hSw); go_simp <;> with_reducible rfl)
              (try simp only [Act.put, List.setIfInBounds_toArray, List.set_cons_zero, List.set_cons_succ])
              refine ordM_take 3 ?vq997 rfl (by kernel_rfl) (by kernel_rfl) (by kernel_rfl) (by kernel_rfl) (fun _ _ _ h => h) (by rfl) ?hq997 (by assumption) ?rq997
              case hq997 => (intro W hSw; (try dsimp only at hSw); go_simp <;> with_reducible rfl)
              (try simp only [Act.put, List.setIfInBounds_toArray, List.set_cons_zero, List.set_cons_succ])
              refine ordM_take 4 ?vq998 rfl (by kernel_rfl) (by kernel_rfl) (by kernel_rfl) (by kernel_rfl) (fun _ _ _ h => h) (by rfl) ?hq998 (by assumption) ?rq998
              case hq998 => (intro W hSw; (try dsimp only at hSw); go_simp <;> with_reducible rfl)
              (try simp only [Act.put, List.setIfInBounds_toArray, List.set_cons_zero, List.set_cons_succ])
              refine ordM_take 5 ?vq999 rfl (by kernel_rfl) (by kernel_rfl) (by kernel_rfl) (by kernel_rfl) (fun _ _ _ h => h) (by rfl) ?hq999 (by assumption) ?rq999
              case hq999 => (intro W hSw; (try dsimp only at hSw); go_simp <;> with_reducible rfl)
              (try simp only [Act.put, List.setIfInBounds_toArray, List.set_cons_zero, List.set_cons_succ])
              refine ordM_take 6 ?vq9100 rfl (by kernel_rfl) (by kernel_rfl) (by kernel_rfl) (by kernel_rfl) (fun _ _ _ h => h) (by rfl) ?hq9100 (by assumption) ?rq9100
              case hq9100 => (intro W hSw; (try dsimp only at hSw); go_simp <;> with_reducible rfl)
              (try simp only [Act.put, List.setIfInBounds_toArray, List.set_cons_zero, List.set_cons_succ])
              refine ordM_take 7 ?vq9101 rfl (by kernel_rfl) (by kernel_rfl) (by kernel_rfl) (by kernel_rfl) (fun _ _ _ h => h) (by rfl) ?hq9101 (by assumption) ?rq9101
              case hq9101 => (intro W hSw; (try dsimp only at hSw); go_simp <;> with_reducible rfl)
              (try simp only [Act.put, List.setIfInBounds_toArray, List.set_cons_zero, List.set_cons_succ])
              refine ordM_take 8 ?vq9102 rfl (by kernel_rfl) (by kernel_rfl) (by kernel_rfl) (by kernel_rfl) (fun _ _ _ h => h) (by rfl) ?hq9102 (by assumption) ?rq9102
              case hq9102 => (intro W hSw; (try dsimp only at hSw); go_simp <;> with_reducible rfl)
              (try simp only [Act.put, List.setIfInBounds_toArray, List.set_cons_zero, List.set_cons_succ])
              refine ordM_take 9 ?vq9103 rfl (by kernel_rfl) (by kernel_rfl) (by kernel_rfl) (by kernel_rfl) (fun _ _ _ h => h) (by rfl) ?hq9103 (by assumption) ?rq9103
              case hq9103 => (intro W hSw; (try dsimp only at hSw); go_simp <;> with_reducible rfl)
              (try simp only [Act.put, List.setIfInBounds_toArray, List.set_cons_zero, List.set_cons_succ])
              refine ordM_take 10 ?vq9104 rfl (by kernel_rfl) (by kernel_rfl) (by kernel_rfl) (by kernel_rfl) (fun _ _ _ h => h) (by rfl) ?hq9104 (by assumption) ?rq9104
              case hq9104 => (intro W hSw; (try dsimp only at hSw); go_simp <;> with_reducible rfl)
              (try simp only [Act.put, List.setIfInBounds_toArray, List.set_cons_zero, List.set_cons_succ])
              refine ordM_ready [11] (by kernel_rfl) (by simp) ?_
              refine AllReadyM.cons rfl (fun K hK => ?_) AllReadyM.nil
              go_simp
              have hbu : Below wf.heap.size wf (wf.alloc (.cells #[.int .u8 (IntKind.u8.wrap x)] 5)).drew := ((Below.refl _ _).alloc (Nat.le_refl _) _).drew
              have hU : (wf.alloc (.cells #[.int .u8 (IntKind.u8.wrap x)] 5)).drew.heap[wf.heap.size]? = some (.cells #[.int .u8 (IntKind.u8.wrap x)] 5 (0, 0)) := heap_alloc_new wf _
              have hS2 := HT _ hbu
              refine hK.out _ _ (fun _ => hS2) ?_
              clear hK K
              (try simp only [Act.put, List.setIfInBounds_toArray, List.set_cons_zero, List.set_cons_succ])
              generalize (wf.alloc (.cells #[.int .u8 (IntKind.u8.wrap x)] 5)).drew = w2 at hbu hU hS2 ⊢
              generalize hgu : wf.heap.size = gu at hU hbu ⊢
              have hcv : Sem.run Try.prog (convert 64 9 (.slice (some ⟨gu, 0, none⟩) 1 1)) w2 = Result.ok (.string sx) w2 := by rw [HSX.out]; exact so_conv w2 gu _ hU
              refine ordM_ready [12] (by kernel_rfl) (by simp) ?_
              refine AllReadyM.cons rfl (fun K hK => ?_) AllReadyM.nil
              go_simp
              refine hK.out _ _ (fun _ => hS2) ?_
              clear hK K
              (try simp only [Act.put, List.setIfInBounds_toArray, List.set_cons_zero, List.set_cons_succ])
              refine ordM_take 13 ?vq977 rfl (by kernel_rfl) (by kernel_rfl) (by kernel_rfl) (by kernel_rfl) (fun _ _ _ h => h) (by rfl) ?hq977 (by assumption) ?rq977
              case hq977 => (intro W hSw; (try dsimp only at hSw); go_simp <;> with_reducible rfl)
              (try simp only [Act.put, List.setIfInBounds_toArray, List.set_cons_zero, List.set_cons_succ])
              refine ordM_take 14 ?vq978 rfl (by kernel_rfl) (by kernel_rfl) (by kernel_rfl) (by kernel_rfl) (fun _ _ _ h => h) (by rfl) ?hq978 (by assumption) ?rq978
              case hq978 => (intro W hSw; (try dsimp only at hSw); go_simp <;> with_reducible rfl)
              (try simp only [Act.put, List.setIfInBounds_toArray, List.set_cons_zero, List.set_cons_succ])
              refine ordM_take 15 ?vq979 rfl (by kernel_rfl) (by kernel_rfl) (by kernel_rfl) (by kernel_rfl) (fun _ _ _ h => h) (by rfl) ?hq979 (by assumption) ?rq979
              case hq979 => (intro W hSw; (try dsimp only at hSw); go_simp <;> with_reducible rfl)
              (try simp only [Act.put, List.setIfInBounds_toArray, List.set_cons_zero, List.set_cons_succ])
              refine ordM_take 16 ?vq980 rfl (by kernel_rfl) (by kernel_rfl) (by kernel_rfl) (by kernel_rfl) (fun _ _ _ h => h) (by rfl) ?hq980 (by assumption) ?rq980
              case hq980 => (intro W hSw; (try dsimp only at hSw); go_simp <;> with_reducible rfl)
              (try simp only [Act.put, List.setIfInBounds_toArray, List.set_cons_zero, List.set_cons_succ])
              refine ordM_take 17 ?vq981 rfl (by kernel_rfl) (by kernel_rfl) (by kernel_rfl) (by kernel_rfl) (fun _ _ _ h => h) (by rfl) ?hq981 (by assumption) ?rq981
              case hq981 => (intro W hSw; (try dsimp only at hSw); go_simp <;> with_reducible rfl)
              (try simp only [Act.put, List.setIfInBounds_toArray, List.set_cons_zero, List.set_cons_succ])
              refine ordM_take 18 ?vq982 rfl (by kernel_rfl) (by kernel_rfl) (by kernel_rfl) (by kernel_rfl) (fun _ _ _ h => h) (by rfl) ?hq982 (by assumption) ?rq982
              case hq982 => (intro W hSw; (try dsimp only at hSw); go_simp <;> with_reducible rfl)
              (try simp only [Act.put, List.setIfInBounds_toArray, List.set_cons_zero, List.set_cons_succ])
              refine ordM_take 19 ?vq983 rfl (by kernel_rfl) (by kernel_rfl) (by kernel_rfl) (by kernel_rfl) (fun _ _ _ h => h) (by rfl) ?hq983 (by assumption) ?rq983
              case hq983 => (intro W hSw; (try dsimp only at hSw); go_simp <;> with_reducible rfl)
              (try simp only [Act.put, List.setIfInBounds_toArray, List.set_cons_zero, List.set_cons_succ])
              refine ordM_take 20 ?vq984 rfl (by kernel_rfl) (by kernel_rfl) (by kernel_rfl) (by kernel_rfl) (fun _ _ _ h => h) (by rfl) ?hq984 (by assumption) ?rq984
              case hq984 => (intro W hSw; (try dsimp only at hSw); go_simp <;> with_reducible rfl)
              (try simp only [Act.put, List.setIfInBounds_toArray, List.set_cons_zero, List.set_cons_succ])
              refine ordM_take 21 ?vq985 rfl (by kernel_rfl) (by kernel_rfl) (by kernel_rfl) (by kernel_rfl) (fun _ _ _ h => h) (by rfl) ?hq985 (by assumption) ?rq985
              case hq985 => (intro W hSw; (try dsimp only at hSw); go_simp <;> with_reducible rfl)
              (try simp only [Act.put, List.setIfInBounds_toArray, List.set_cons_zero, List.set_cons_succ])
              refine ordM_take 22 ?vq986 rfl (by kernel_rfl) (by kernel_rfl) (by kernel_rfl) (by kernel_rfl) (fun _ _ _ h => h) (by rfl) ?hq986 (by assumption) ?rq986
              case hq986 => (intro W hSw; (try dsimp only at hSw); go_simp <;> with_reducible rfl)
              (try simp only [Act.put, List.setIfInBounds_toArray, List.set_cons_zero, List.set_cons_succ])
              refine ordM_take 23 ?vq987 rfl (by kernel_rfl) (by kernel_rfl) (by kernel_rfl) (by kernel_rfl) (fun _ _ _ h => h) (by rfl) ?hq987 (by assumption) ?rq987
              case hq987 => (intro W hSw; (try dsimp only at hSw); go_simp <;> with_reducible rfl)
              (try simp only [Act.put, List.setIfInBounds_toArray, List.set_cons_zero, List.set_cons_succ])
              refine ordM_take 24 ?vq988 rfl (by kernel_rfl) (by kernel_rfl) (by kernel_rfl) (by kernel_rfl) (fun _ _ _ h => h) (by rfl) ?hq988 (by assumption) ?rq988
              case hq988 => (intro W hSw; (try dsimp only at hSw); go_simp <;> with_reducible rfl)
              (try simp only [Act.put, List.setIfInBounds_toArray, List.set_cons_zero, List.set_cons_succ])
              refine ordM_take 25 ?vq989 rfl (by kernel_rfl) (by kernel_rfl) (by kernel_rfl) (by kernel_rfl) (fun _ _ _ h => h) (by rfl) ?hq989 (by assumption) ?rq989
              case hq989 => (intro W hSw; (try dsimp only at hSw); go_simp <;> with_reducible rfl)
              (try simp only [Act.put, List.setIfInBounds_toArray, List.set_cons_zero, List.set_cons_succ])
              refine ordM_take 26 ?vq990 rfl (by kernel_rfl) (by kernel_rfl) (by kernel_rfl) (by kernel_rfl) (fun _ _ _ h => h) (by rfl) ?hq990 (by assumption) ?rq990
              case hq990 => (intro W hSw; (try dsimp only at hSw); go_simp <;> with_reducible rfl)
              (try simp only [Act.put, List.setIfInBounds_toArray, List.set_cons_zero, List.set_cons_succ])
              refine ordM_take 27 ?vq991 rfl (by kernel_rfl) (by kernel_rfl) (by kernel_rfl) (by kernel_rfl) (fun _ _ _ h => h) (by rfl) ?hq991 (by assumption) ?rq991
              case hq991 => (intro W hSw; (try dsimp only at hSw); go_simp <;> with_reducible rfl)
              (try simp only [Act.put, List.setIfInBounds_toArray, List.set_cons_zero, List.set_cons_succ])
              refine ordM_take 28 ?vq992 rfl (by kernel_rfl) (by kernel_rfl) (by kernel_rfl) (by kernel_rfl) (fun _ _ _ h => h) (by rfl) ?hq992 (by assumption) ?rq992
              case hq992 => (intro W hSw; (try dsimp only at hSw); go_simp <;> with_reducible rfl)
              (try simp only [Act.put, List.setIfInBounds_toArray, List.set_cons_zero, List.set_cons_succ])
              refine ordM_take 29 ?vq993 rfl (by kernel_rfl) (by kernel_rfl) (by kernel_rfl) (by kernel_rfl) (fun _ _ _ h => h) (by rfl) ?hq993 (by assumption) ?rq993
              case hq993 => (intro W hSw; (try dsimp only at hSw); go_simp <;> with_reducible rfl)
              (try simp only [Act.put, List.setIfInBounds_toArray, List.set_cons_zero, List.set_cons_succ])
              refine ordM_done (by kernel_rfl) ?_ _
              refine NoPanic.normal ?_
              go_wp2_with fail
              go_roundw
              case rel => exact ⟨i + 1 + 1, by omega, by go_num, hbf.trans (hbu.mono (by rw [← hgu]; exact hbf.size))⟩
              case measure => simp [intOf]; omega
          · obtain rfl : j = l.length := by omega
            have HL := Lib.hid (bfLen_q hIz)
            go_wp2_with fail
            refine HL.out.mono ?_
            rintro e w9 ⟨rfl, hq⟩
            subst hq
            go_wp2_with fail
            go_ret
            exact ⟨by simp, by rw [HG.out]; exact hbw⟩
end bufferSorts
end Go.Proofs.Ytphlnhdgoejpjaa
