/- history: drop, New, Len, Again2. -/
import Derived.Test.YtaekefedmobfoaaHiC
namespace Go.Proofs.Ytaekefedmobfoaa
open Go.RowKit
set_option linter.unusedVariables false
set_option linter.unusedSimpArgs false
theorem hiClear (b o c n : Nat) (w : World) (hn : 0 < n) (hc : ∀ j, j < n * 4 → (w.cell? ⟨b, o + j, none⟩).isSome = true ∧ w.frozen? ⟨b, o + j, none⟩ = false) :
    ∃ vs : List Value, vs.length = n * 4 ∧ ∀ ty, (Builtin.clear_ #[121] ty #[.slice (some ⟨b, o, none⟩) n c]).run Try.prog w = .ok (.tuple #[]) (w.setCells b o vs) := by
  refine ⟨(Builtin.zeroCells (Value.cells (.agg #[.int .i64 0, .int .i64 0, .int .i64 0, .string ByteArray.empty])) n).toList, by simp [Builtin.zeroCells, Value.cells], fun ty => ?_⟩
  refine run_clear_recs (P := Try.prog) w 121 64 ty (.agg #[.int .i64 0, .int .i64 0, .int .i64 0, .string ByteArray.empty]) Try.underlying121 (fun w => by kernel_rfl) ?_ b o n c hn ?_
  · intro n u hu
    simp [Builtin.zeroCells, Value.cells] at hu
    obtain ⟨i, _, rfl⟩ := hu
    have h4 : i % 4 < 4 := Nat.mod_lt _ (by decide)
    generalize i % 4 = q at h4 ⊢
    match q, h4 with
    | 0, _ => rfl
    | 1, _ => rfl
    | 2, _ => rfl
    | 3, _ => rfl
  · intro j hj
    exact hc j (by simpa [Value.cells] using hj)
theorem hiClear0 (a : Option Addr) (c : Nat) (ty : TypeId) (w : World) : (Builtin.clear_ #[121] ty #[.slice a 0 c]).run Try.prog w = .ok (.tuple #[]) w := by
  cases a <;> simp [Builtin.clear_, run_underlying Try.underlying121]
theorem at4h_set2 {T : TypeId} {W : World} {g : Nat} {c0 c1 c2 c3 : Value} (h : At4 T W g c0 c1 c2 c3) (u : Value) : At4 T (W.setCell ⟨g, 2, none⟩ u) g c0 c1 u c3 := block_setCell h
theorem at4h_set3 {T : TypeId} {W : World} {g : Nat} {c0 c1 c2 c3 : Value} (h : At4 T W g c0 c1 c2 c3) (u : Value) : At4 T (W.setCell ⟨g, 3, none⟩ u) g c0 c1 c2 u := block_setCell h
theorem hiNew_any (m t : Int) (w : World) : Calls Try.prog 23 #[.int .i64 m, .int .i64 t] w fun e w' => e = .returned (.pointer (some ⟨w.heap.size, 0, none⟩)) ∧ HIn w' w.heap.size w.heap.size m t (.slice none 0 0) [] 0 ∧ Below w.heap.size w w' := by
  go_enter Try.func23, Try.ntmps23
  go_wp2_with fail
  go_ret
  have := hiC_bd m
  exact ⟨by first | rfl | simp, ⟨Nat.le_refl _, at4_new _ _ _ _ _ _ _ rfl, ownE_nil _ _ _ _, by simp; omega, List.Pairwise.nil⟩, (Below.refl _ _).alloc (Nat.le_refl _) _⟩
theorem hiLen_q {w : World} {base gh : Nat} {m t : Int} {v : Value} {l : List HR} {ag : Int} (h : HIn w base gh m t v l ag) : Calls Try.prog 27 #[.pointer (some ⟨gh, 0, none⟩)] w fun e w' => e = .returned (.int .i64 (l.length : Int)) ∧ w' = w := by
  obtain ⟨a, cap, rfl⟩ := h.own.form4
  obtain ⟨_, _, _, _⟩ := h.at4.cells
  clear h
  go_enter Try.func27, Try.ntmps27
  go_wp2
  go_ret
  exact ⟨rfl, rfl⟩
theorem hiAgain2_q {w : World} {base gh : Nat} {m t : Int} {v : Value} {l : List HR} {ag : Int} (h : HIn w base gh m t v l ag) : Calls Try.prog 67 #[.pointer (some ⟨gh, 0, none⟩)] w fun e w' => e = .returned (.int .i64 ag) ∧ w' = w := by
  obtain ⟨_, _, _, _⟩ := h.at4.cells
  clear h
  go_enter Try.func67, Try.ntmps67
  go_wp2
  go_ret
  exact ⟨rfl, rfl⟩
/-- All old blocks but two are kept. -/
def KeptV (gh : Nat) (ob : Option Nat) (w w' : World) : Prop := ∀ k, k < w.heap.size → k ≠ gh → ob ≠ some k → w'.heap[k]? = w.heap[k]?
theorem KeptV.trans {gh : Nat} {ob : Option Nat} {a b c : World} (hs : a.heap.size ≤ b.heap.size) (h : KeptV gh ob a b) (k : KeptV gh ob b c) : KeptV gh ob a c := fun i hi h1 h2 => (k i (by omega) h1 h2).trans (h i hi h1 h2)
theorem keptV_only {gh : Nat} {ob : Option Nat} {w w' : World} (h : Only gh w w') : KeptV gh ob w w' := fun k _ h1 _ => h.block k h1
theorem keptV_row {gh g : Nat} {w w' : World} (h : Only g w w') : KeptV gh (some g) w w' := fun k _ _ h2 => h.block k (fun e => h2 (by rw [e]))
theorem keptV_below {gh : Nat} {ob : Option Nat} {w w' : World} (h : Below w.heap.size w w') : KeptV gh ob w w' := fun k hk _ _ => h.block k hk
theorem keptV_grown {gh : Nat} {row : Option Nat} {w w' : World} (h : w.grownBy w' row) : KeptV gh row w w' := fun k hk _ h2 => h.block k hk (fun e => h2 e.symm)
set_option maxRecDepth 100000 in
theorem hiDrop0 {w : World} {base gh : Nat} {m t : Int} {v : Value} {l : List HR} {ag : Int} (h : HIn w base gh m t v l ag) : Calls Try.prog 70 #[.pointer (some ⟨gh, 0, none⟩), .int .i64 0] w fun e w' => e = .returned (.tuple #[]) ∧ (∃ v', HIn w' base gh m t v' l ag ∧ v'.ownBlock = v.ownBlock) ∧ Below base w w' ∧ KeptH w w' ∧ KeptV gh v.ownBlock w w' := by
  have hO := h.own
  have hsm := h.small
  have h4 := h.at4
  obtain ⟨_, _, _, _⟩ := h.at4.cells
  obtain ⟨_, _, _, _⟩ := h.at4.frees
  have HH := Lib.hid h
  have ho := (Only.refl gh w).setCell 2 v
  have hX := at4h_set2 h4 v
  have HP : Hid (HIn (w.setCell ⟨gh, 2, none⟩ v) base gh m t v l ag) := Lib.hid ⟨h.bs, hX, hO.keep (by rw [ho.size]; exact Nat.le_refl _) (fun k cs hk _ => ho.block k (fun e => h.apart (by rw [hk, e]))), h.len, h.up⟩
  have HB := Lib.hid (ho.below h.bs)
  have HK := Lib.hid (keptH_only h4 ho)
  have HV := Lib.hid (keptV_only (ob := v.ownBlock) ho)
  clear ho hX
  have hcl := fun a c ty => hiClear0 a c ty w
  rcases hO.1.2 with ⟨e, hn⟩ | ⟨g, off, cap, e, q1, q2, q3, q4, _, _⟩
  · subst e
    clear h hO h4
    go_enter Try.func70, Try.ntmps70
    go_wp2_with fail
    go_end0
    exact ⟨rfl, ⟨_, HP.out, rfl⟩, HB.out, HK.out, HV.out⟩
  · subst e
    unfold maxLen at q4
    clear h hO h4
    generalize l.length = n at *
    by_cases hc : cap = 0
    · subst hc
      obtain rfl : n = 0 := by omega
      go_enter Try.func70, Try.ntmps70
      go_wp2_with fail
      go_end0
      exact ⟨rfl, ⟨_, HP.out, rfl⟩, HB.out, HK.out, HV.out⟩
    · have hc0 : 0 < cap := by omega
      go_enter Try.func70, Try.ntmps70
      go_wp2_with fail
      go_end0
      exact ⟨rfl, ⟨_, HP.out, rfl⟩, HB.out, HK.out, HV.out⟩
set_option maxRecDepth 100000 in
theorem hiDropS {w : World} {base gh : Nat} {m t : Int} {l : List HR} {ag : Int} {g off cap : Nat} (h : HIn w base gh m t (.slice (some ⟨g, off, none⟩) l.length cap) l ag) (k : Nat) (h0 : 0 < k) (hk : k ≤ l.length) (hkc : k < cap) (hcap : cap ≤ 9223372036854775807) :
    Calls Try.prog 70 #[.pointer (some ⟨gh, 0, none⟩), .int .i64 k] w fun e w' => e = .returned (.tuple #[]) ∧ (∃ v', HIn w' base gh m t v' (l.drop k) ag ∧ v'.ownBlock = some g) ∧ Below base w w' ∧ KeptH w w' ∧ KeptV gh (some g) w w' := by
  have hO := h.own
  have hle : l.length ≤ cap := by
    rcases hO.1.2 with ⟨e, hn⟩ | ⟨g', off', cap', e, q1, q2, q3, q4, _, _⟩
    · cases e
    · cases e; exact q3
  have hcells : ∀ j, j < k * 4 → (w.cell? ⟨g, off + j, none⟩).isSome = true ∧ w.frozen? ⟨g, off + j, none⟩ = false := by
    rcases hO.1.2 with ⟨e, hn⟩ | ⟨g', off', cap', e, q1, q2, q3, q4, q5, _⟩
    · cases e
    · cases e; exact fun j hj => q5 j (by omega)
  obtain ⟨vs, hvl, hcl⟩ := hiClear g off cap k w h0 hcells
  have hsm := h.small
  have h4 := h.at4
  have hgg : gh ≠ g := fun e => h.apart (by rw [e]; rfl)
  have hbg : base ≤ g := (hO.1.lt g rfl).1
  have hbh := h.bs
  have ho := setCells_only g vs off w
  have hX := h4.only hgg ho
  have hO3 := hO.front k hk vs (Nat.le_of_eq hvl)
  rw [hiV_drop] at hO3
  have HT0 := hO.2
  have hlen := h.len
  have HP : Hid (∀ (W : World) (v' : Value), At4 123 W gh (.int .i64 m) (.int .i64 t) v' (.int .i64 ag) → OwnE W base 64 4 v' (l.length - k) (hiV (l.drop k)) → HIn W base gh m t v' (l.drop k) ag) := Lib.hid (fun W v' x y => ⟨hbh, x, by rw [List.length_drop]; exact y, by rw [List.length_drop]; omega, hiUp_drop h.up k⟩)
  have hb : Below base w (w.setCells g off vs) := ho.below hbg
  have hK : KeptH w (w.setCells g off vs) := keptH_row (row := some g) HT0 (only_grown ho)
  have hV : KeptV gh (some g) w (w.setCells g off vs) := keptV_row ho
  have hsv : w.heap.size ≤ (w.setCells g off vs).heap.size := by rw [ho.size]; exact Nat.le_refl _
  obtain ⟨_, _, _, _⟩ := h4.cells
  clear hcells hlen
  generalize l.length = n at *
  go_enter Try.func70, Try.ntmps70
  go_upto_region 1 with fail
  generalize w.setCells g off vs = w3 at hX hO3 hb hK hV hsv ⊢
  clear ho hcl h4 hO h
  obtain ⟨_, _, _, _⟩ := hX.cells
  obtain ⟨_, _, _, _⟩ := hX.frees
  go_wp2_with fail
  have ho5 := (Only.refl gh w3).setCell 2 (.slice (some ⟨g, off + k * 4, none⟩) (n - k) (cap - k))
  have hX5 := at4h_set2 hX (.slice (some ⟨g, off + k * 4, none⟩) (n - k) (cap - k))
  have hO5 : OwnE (w3.setCell ⟨gh, 2, none⟩ (.slice (some ⟨g, off + k * 4, none⟩) (n - k) (cap - k))) base 64 4 (.slice (some ⟨g, off + k * 4, none⟩) (n - k) (cap - k)) (n - k) (hiV (l.drop k)) := hO3.keep (by rw [ho5.size]; exact Nat.le_refl _) (fun k cs hk _ => ho5.block k (fun e => hgg (by cases hk; exact e.symm)))
  go_end0
  exact ⟨rfl, ⟨_, HP.out _ _ hX5 hO5, rfl⟩, hb.trans (ho5.below hbh), hK.trans (keptH_only hX ho5), hV.trans hsv (keptV_only ho5)⟩
set_option maxRecDepth 100000 in
theorem hiDropA {w : World} {base gh : Nat} {m t : Int} {l : List HR} {ag : Int} {g off cap : Nat} (h : HIn w base gh m t (.slice (some ⟨g, off, none⟩) l.length cap) l ag) (k : Nat) (h0 : 0 < k) (hk : k ≤ l.length) (hkc : cap = k) (hcap : cap ≤ 9223372036854775807) :
    Calls Try.prog 70 #[.pointer (some ⟨gh, 0, none⟩), .int .i64 k] w fun e w' => e = .returned (.tuple #[]) ∧ (∃ v', HIn w' base gh m t v' (l.drop k) ag ∧ v'.ownBlock = some g) ∧ Below base w w' ∧ KeptH w w' ∧ KeptV gh (some g) w w' := by
  have hO := h.own
  have hle : l.length ≤ cap := by
    rcases hO.1.2 with ⟨e, hn⟩ | ⟨g', off', cap', e, q1, q2, q3, q4, _, _⟩
    · cases e
    · cases e; exact q3
  have hcells : ∀ j, j < k * 4 → (w.cell? ⟨g, off + j, none⟩).isSome = true ∧ w.frozen? ⟨g, off + j, none⟩ = false := by
    rcases hO.1.2 with ⟨e, hn⟩ | ⟨g', off', cap', e, q1, q2, q3, q4, q5, _⟩
    · cases e
    · cases e; exact fun j hj => q5 j (by omega)
  subst hkc
  obtain ⟨vs, hvl, hcl⟩ := hiClear g off cap cap w h0 hcells
  have hsm := h.small
  have h4 := h.at4
  have hgg : gh ≠ g := fun e => h.apart (by rw [e]; rfl)
  have hbg : base ≤ g := (hO.1.lt g rfl).1
  have hbh := h.bs
  have ho := setCells_only g vs off w
  have hX := h4.only hgg ho
  have hlk : l.length = cap := by omega
  have hO3 : OwnE (w.setCells g off vs) base 64 4 (.slice (some ⟨g, off, none⟩) 0 0) (l.length - cap) (hiV (l.drop cap)) := by
    have e1 : l.drop cap = [] := List.drop_eq_nil_of_le (by omega)
    have e2 : l.length - cap = 0 := by omega
    rw [e1, e2]
    rw [hlk] at hO
    exact hO.frontAll vs
  have HT0 := hO.2
  have hlen := h.len
  have HP : Hid (∀ (W : World) (v' : Value), At4 123 W gh (.int .i64 m) (.int .i64 t) v' (.int .i64 ag) → OwnE W base 64 4 v' (l.length - cap) (hiV (l.drop cap)) → HIn W base gh m t v' (l.drop cap) ag) := Lib.hid (fun W v' x y => ⟨hbh, x, by rw [List.length_drop]; exact y, by rw [List.length_drop]; omega, hiUp_drop h.up cap⟩)
  have hb : Below base w (w.setCells g off vs) := ho.below hbg
  have hK : KeptH w (w.setCells g off vs) := keptH_row (row := some g) HT0 (only_grown ho)
  have hV : KeptV gh (some g) w (w.setCells g off vs) := keptV_row ho
  have hsv : w.heap.size ≤ (w.setCells g off vs).heap.size := by rw [ho.size]; exact Nat.le_refl _
  obtain ⟨_, _, _, _⟩ := h4.cells
  clear hcells hlen
  generalize l.length = n at *
  go_enter Try.func70, Try.ntmps70
  go_upto_region 1 with fail
  generalize w.setCells g off vs = w3 at hX hO3 hb hK hV hsv ⊢
  clear ho hcl h4 hO h
  obtain ⟨_, _, _, _⟩ := hX.cells
  obtain ⟨_, _, _, _⟩ := hX.frees
  go_wp2_with fail
  have ho5 := (Only.refl gh w3).setCell 2 (.slice (some ⟨g, off, none⟩) 0 0)
  have hX5 := at4h_set2 hX (.slice (some ⟨g, off, none⟩) 0 0)
  have hO5 : OwnE (w3.setCell ⟨gh, 2, none⟩ (.slice (some ⟨g, off, none⟩) 0 0)) base 64 4 (.slice (some ⟨g, off, none⟩) 0 0) (n - cap) (hiV (l.drop cap)) := hO3.keep (by rw [ho5.size]; exact Nat.le_refl _) (fun k cs hk _ => ho5.block k (fun e => hgg (by cases hk; exact e.symm)))
  go_end0
  exact ⟨rfl, ⟨_, HP.out _ _ hX5 hO5, rfl⟩, hb.trans (ho5.below hbh), hK.trans (keptH_only hX ho5), hV.trans hsv (keptV_only ho5)⟩
theorem hiDrop_any {w : World} {base gh : Nat} {m t : Int} {v : Value} {l : List HR} {ag : Int} (h : HIn w base gh m t v l ag) (k : Nat) (hk : k ≤ l.length) :
    Calls Try.prog 70 #[.pointer (some ⟨gh, 0, none⟩), .int .i64 k] w fun e w' => e = .returned (.tuple #[]) ∧ (∃ v', HIn w' base gh m t v' (l.drop k) ag ∧ v'.ownBlock = v.ownBlock) ∧ Below base w w' ∧ KeptH w w' ∧ KeptV gh v.ownBlock w w' := by
  rcases Nat.eq_zero_or_pos k with rfl | h0
  · exact hiDrop0 h
  · obtain ⟨g, off, cap, rfl, h1, h2, _⟩ := h.own.row (by omega)
    unfold maxLen at h2
    rcases Nat.lt_or_ge k cap with h3 | h3
    · exact hiDropS h k h0 hk h3 (by omega)
    · exact hiDropA h k h0 hk (by omega) (by omega)

end Go.Proofs.Ytaekefedmobfoaa
