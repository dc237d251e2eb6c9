/- nack: Pairs. -/
import Derived.Test.YtagimjaojpdfiaaNkT
import Derived.Test.YtagimjaojpdfiaaPcT
namespace Go.Proofs.Ytagimjaojpdfiaa
open Go.RowKit Go.Maps
set_option linter.unusedVariables false
/-- One number more of those that pairs are made of. -/
def stp (st : List (Int × Nat) × (Int → Bool)) (n : Int) : List (Int × Nat) × (Int → Bool) :=
  if st.2 n then (st.1 ++ [(n, blp st.2 n 16)], fun x => st.2 x && !(nums n (blp st.2 n 16) 16).contains x) else st
/-- The pairs of numbers. -/
def prAt (zs : List Int) (k : Nat) : List (Int × Nat) × (Int → Bool) := (zs.take k).foldl stp ([], fun x => zs.contains x)
def prs (zs : List Int) : List (Int × Nat) := (prAt zs zs.length).1
theorem prAt_succ (zs : List Int) (k : Nat) (h : k < zs.length) : prAt zs (k + 1) = stp (prAt zs k) (zs[k]?.getD 0) := by
  unfold prAt
  rw [List.take_succ_eq_append_getElem h, List.foldl_append]
  simp [h]
theorem prAt_len (zs : List Int) : ∀ k, (prAt zs k).1.length ≤ k
  | 0 => by simp [prAt]
  | k + 1 => by
    by_cases h : k < zs.length
    · rw [prAt_succ zs k h]
      have := prAt_len zs k
      unfold stp
      split
      · simp; omega
      · omega
    · have h1 : prAt zs (k + 1) = prAt zs k := by unfold prAt; rw [List.take_of_length_le (by omega), List.take_of_length_le (by omega)]
      rw [h1]
      exact Nat.le_succ_of_le (prAt_len zs k)
/-- Pairs as values, one behind the other. -/
def prV (l : List (Int × Nat)) : List Value := l.flatMap fun p => [.int .u16 p.1, .int .u16 (p.2 : Int)]
theorem prV_snoc (l : List (Int × Nat)) (p : Int × Nat) : prV (l ++ [p]) = prV l ++ [.int .u16 p.1, .int .u16 (p.2 : Int)] := by simp [prV]
theorem infoPair : (Try.prog.info? 131).map (fun i => (i.zero, i.size, i.bytes)) = some (some (.agg #[.int .u16 0, .int .u16 0]), 2, 4) := by kernel_rfl
theorem setAt_put {W w1 : World} {m n : Nat} {S : Int → Bool} {D : DataW Unit} {x : Int} (hM : W.ownsMap Try.prog 129 unitElem m n D) (hS : ∀ y : Int, 0 ≤ y → y < 65536 → Maps.has D (.int .u16 y) = S y) (h : w1.ownsMap Try.prog 129 unitElem m (n + 1) (D.put (.int .u16 x) (.agg []))) : SetAt w1 m (n + 1) (fun y => S y || y == x) := by
  refine ⟨_, h, fun y h0 h1 => ?_⟩
  by_cases hyx : y = x
  · subst hyx
    rw [has_put_same hM.isMap (by simp [WideAt.IsKeyLit])]
    simp
  · rw [has_put_other (by simpa using hyx), hS y h0 h1]
    simp [hyx]
theorem contains_succ (zs : List Int) (k : Nat) (h : k < zs.length) : (fun y : Int => (zs.take (k + 1)).contains y) = fun y => (zs.take k).contains y || y == zs[k]?.getD 0 := by
  funext y
  rw [Bool.eq_iff_iff]
  simp only [List.contains_iff_mem, Bool.or_eq_true, beq_iff_eq, List.take_succ_eq_append_getElem h, List.mem_append, List.mem_singleton, List.getElem?_eq_getElem h, Option.getD_some]
theorem below_ex {m : Nat} {w W W' : World} (hm : m ≤ W.heap.size) (h : Below m w W) (k : Ex m W W') : Below m w W' :=
  ⟨k.os.trans h.os, k.tape.trans h.tape, k.output.trans h.output, Nat.le_trans h.size k.size, fun i hi => (k.block i (by omega) (by omega)).trans (h.block i hi)⟩
theorem row_ex {m base e size k : Nat} {W W' : World} {v : Value} {xs : List Value} (h : W.ownsRow base e size v k xs) (hb : m < base) (hx : Ex m W W') : W'.ownsRow base e size v k xs := by
  refine ⟨h.1, ?_⟩
  rcases h.2 with hz | ⟨g, cap, cur, rfl, h1, h2, h3⟩
  · exact .inl hz
  · exact .inr ⟨g, cap, cur, rfl, h1, (hx.block g (lt_of_block h2) (by omega)).trans h2, h3⟩
set_option maxHeartbeats 1600000 in
set_option maxRecDepth 100000 in
theorem pairs_any (zs : List Int) (a : Option Addr) (c : Nat) (w : World) (hr0 : Reads .u16 w a zs) (hl : zs.length ≤ 1000000) (hz : ∀ n ∈ zs, 0 ≤ n ∧ n < 65536) :
    Calls Try.prog 52 #[.slice a zs.length c] w fun e w' => ∃ v, e = .returned v ∧ w'.ownsRow (w.heap.size + 1) 131 2 v (prs zs).length (prV (prs zs)) ∧ Below w.heap.size w w' := by
  have hmm := @run_makeMap Try.prog
  obtain ⟨i0, hi, hz0, hz1, hz2⟩ := info_parts infoPair
  go_enter Try.func52, Try.ntmps52
  go_wp2
  go_loopw [14] (fun i wr => ∃ k : Nat, k ≤ zs.length ∧ i = .int .i64 k ∧ SetAt wr w.heap.size k (fun y => (zs.take k).contains y) ∧ Below w.heap.size w wr ∧ w.heap.size + 1 ≤ wr.heap.size)
    (fun i _ => zs.length - (intOf i).toNat)
  case atStart => exact ⟨0, Nat.zero_le _, rfl, ⟨_, World.ownsMap_made _ _ _ _, fun y _ _ => by simp [Maps.has_eq]⟩, (Below.refl _ _).alloc (Nat.le_refl _) _, by simp⟩
  case round =>
    obtain ⟨k, hk, rfl, hM, hb, hsz⟩ := hrel
    by_cases hlt : k < zs.length
    · obtain ⟨b, off, rfl, hcell⟩ := (hr0.later hb).at hlt
      obtain ⟨D, hown, hS⟩ := hM
      have hx : 0 ≤ zs[k]?.getD 0 ∧ zs[k]?.getD 0 < 65536 := by rw [List.getElem?_eq_getElem hlt]; exact hz _ (List.getElem_mem hlt)
      have hcs := Lib.hid (contains_succ zs k hlt)
      generalize zs[k]?.getD 0 = x at hcell hx hcs
      have hkey := u16_key hx
      clear hr0 hz
      go_wp2_with (at_mapUpdate; refine wpList_mapUpdate_own _ rfl _ _ _ 190 rfl 129 191 law16k Try.underlying190 (unitElem (H := Unit)) w.heap.size k _ rfl hown (by unfold maxLen; omega) _ _ _ rfl rfl hkey _ [] unitElem_mk ?_; intro w1 hown1 hgrow1)
      go_roundw
      case rel =>
        refine ⟨k + 1, by omega, by go_num, by rw [hcs.out]; exact setAt_put hown hS hown1, hb.grown hgrow1 (by omega) (fun j hj => by cases hj; exact Nat.le_refl _), Nat.le_trans hsz hgrow1.size⟩
      case measure => simp [intOf]; omega
    · obtain rfl : k = zs.length := by omega
      rw [List.take_length] at hM
      go_wp2
      go_loopw [6, 24] (fun v i wr => ∃ k : Nat, k ≤ zs.length ∧ i = .int .i64 k ∧ SetAt wr w.heap.size zs.length (prAt zs k).2 ∧ wr.ownsRow (w.heap.size + 1) 131 2 v (prAt zs k).1.length (prV (prAt zs k).1) ∧ Below w.heap.size w wr ∧ w.heap.size + 1 ≤ wr.heap.size)
        (fun _ i _ => zs.length - (intOf i).toNat)
      case atStart => exact ⟨0, Nat.zero_le _, rfl, hM, World.ownsRow_nil _ _ _ _, hb, hsz⟩
      case round =>
        clear hM hb hsz hk hlt
        obtain ⟨k, hk, rfl, hM, hrow, hb, hsz⟩ := hrel
        by_cases hlt : k < zs.length
        · obtain ⟨b, off, rfl, hcell⟩ := (hr0.later hb).at hlt
          have hM0 := hM
          obtain ⟨D, hown, hS⟩ := hM
          have hx : 0 ≤ zs[k]?.getD 0 ∧ zs[k]?.getD 0 < 65536 := by rw [List.getElem?_eq_getElem hlt]; exact hz _ (List.getElem_mem hlt)
          have hps := prAt_succ zs k hlt
          have hpl := prAt_len zs k
          generalize zs[k]?.getD 0 = x at hcell hx hps
          have hkey := u16_key hx
          have hSx := hS x hx.1 hx.2
          cases hc : (prAt zs k).2 x
          · rw [hc] at hSx
            have HP : Hid (prAt zs (k + 1) = prAt zs k) := Lib.hid (by rw [hps]; unfold stp; rw [hc]; rfl)
            clear hps hc hr0 hz hS
            go_wp2_with (at_lookup; refine wpList_lookup_own_unit _ rfl _ _ 190 rfl 129 191 law16k Try.underlying190 (zeroUk _) w.heap.size zs.length _ rfl hown _ _ rfl hkey ?_)
            go_roundw
            case rel => exact ⟨k + 1, by omega, by go_num, by rw [HP.out]; exact hM0.kept (World.grownBy_alloc _ _ none) (by simp), by rw [HP.out]; exact hrow.alloc _, hb.alloc hb.size _, by simp; omega⟩
            case measure => simp [intOf]; omega
          · rw [hc] at hSx
            have HP : Hid (prAt zs (k + 1) = ((prAt zs k).1 ++ [(x, blp (prAt zs k).2 x 16)], fun y => (prAt zs k).2 y && !(nums x (blp (prAt zs k).2 x 16) 16).contains y)) := Lib.hid (by rw [hps]; unfold stp; rw [hc]; rfl)
            clear hps hc hr0 hz hS
            have hMa := hM0.kept (World.grownBy_alloc wr (.cells #[] 191) none) (by simp)
            have hT := Lib.hid (take_any x (prAt zs k).2 w.heap.size zs.length hx.1 hx.2 (wr.alloc (.cells #[] 191)) hMa)
            generalize prAt zs k = PA at *
            obtain ⟨pl, PS⟩ := PA
            simp only at *
            generalize blp PS x 16 = bb at hT HP
            go_wp2_with (first
              | (at_lookup; refine wpList_lookup_own_unit _ rfl _ _ 190 rfl 129 191 law16k Try.underlying190 (zeroUk _) w.heap.size zs.length _ rfl hown _ _ rfl hkey ?_)
              | fail)
            refine hT.out.mono ?_
            rintro e w5 ⟨rfl, hE, hM5⟩
            have hrow5 := row_ex (hrow.alloc (.cells #[] 191)) (Nat.lt_succ_self _) hE
            have hb5 := below_ex (by simp; omega) (hb.alloc hb.size (.cells #[] 191)) hE
            have hs5 : w.heap.size + 1 ≤ w5.heap.size := by have := hE.size; simp at this; omega
            go_wp2_with (at_builtin; refine append_rec rfl (.tmp 35) (.tmp 39) 23 rfl (w.heap.size + 1) 131 i0 (.agg #[.int .u16 0, .int .u16 0]) 2 4 Try.underlying23 hi hz0 hz1 hz2 rfl (by decide) _ pl.length (prV pl) rfl hrow5 #[.int .u16 x, .int .u16 (bb : Int)] rfl rfl ?d1 ?d2 ?d3 w.heap.size (Nat.le_succ _) hs5 hb5 ?_)
            case d1 => simp [Value.oneCell']
            case d2 => unfold maxLen; omega
            case d3 => omega
            intro v' w6 hown6 hb6 hg6
            have hM6 := (hM5.kept (World.grownBy_alloc w5 (.cells #[.int .u16 x, .int .u16 (bb : Int)] 131) none) (by simp)).kept hg6 (fun e => by have := (hrow5.lt _ e.symm).1; omega)
            have hs6 : w.heap.size + 1 ≤ w6.heap.size := by have := hg6.size; simp at this; omega
            clear hown hrow hM0 hMa hT hE hM5 hrow5
            go_wp2
            go_roundw
            case rel => exact ⟨k + 1, by omega, by go_num, by rw [HP.out]; exact hM6, by rw [HP.out, prV_snoc]; simpa using hown6, hb6, hs6⟩
            case measure => simp [intOf]; omega
        · obtain rfl : k = zs.length := by omega
          go_wp2
          go_ret
          exact ⟨_, rfl, hrow, hb⟩
end Go.Proofs.Ytagimjaojpdfiaa
