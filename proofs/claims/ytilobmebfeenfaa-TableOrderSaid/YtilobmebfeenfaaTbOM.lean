/- TableOrder: plain facts; two tables beside each other. -/
import Derived.Test.YtilobmebfeenfaaTbA
import Derived.Test.YtilobmebfeenfaaMpA
import Derived.Test.YtilobmebfeenfaaRecs
namespace Go.Proofs.Ytilobmebfeenfaa
open Go.RowKit Go.Maps
set_option linter.unusedVariables false
set_option linter.unusedSimpArgs false
/-- Those that may be, set one behind the other. -/
def tbFold (L : List TB) : List TB := L.foldl (fun acc r => if tbMay r = true then tbPut r acc else acc) []
theorem tbFold_snoc (L : List TB) (r : TB) : tbFold (L ++ [r]) = if tbMay r = true then tbPut r (tbFold L) else tbFold L := by
  unfold tbFold
  rw [List.foldl_append]
  rfl
theorem tbFold_take (L : List TB) (k : Nat) (r : TB) (h : L[k]? = some r) : tbFold (L.take (k + 1)) = if tbMay r = true then tbPut r (tbFold (L.take k)) else tbFold (L.take k) := by
  rw [List.take_add_one, h]
  exact tbFold_snoc _ _
/-- Unlike IDs. -/
def TbOnce (L : List TB) : Prop := L.Pairwise (fun a b => a.id ≠ b.id)
theorem tbFold_mem (L : List TB) (x : TB) : x ∈ tbFold L ↔ x ∈ L ∧ tbMay x = true := by
  have key : ∀ (L acc : List TB), x ∈ L.foldl (fun acc r => if tbMay r = true then tbPut r acc else acc) acc ↔ x ∈ acc ∨ (x ∈ L ∧ tbMay x = true) := by
    intro L
    induction L with
    | nil => intro acc; simp
    | cons r L ih =>
      intro acc
      rw [List.foldl_cons, ih]
      by_cases hm : tbMay r = true
      · rw [if_pos hm, tbPut_mem]
        constructor
        · rintro ((rfl | h) | h)
          · exact .inr ⟨List.mem_cons_self, hm⟩
          · exact .inl h
          · exact .inr ⟨List.mem_cons_of_mem _ h.1, h.2⟩
        · rintro (h | ⟨h, h2⟩)
          · exact .inl (.inr h)
          · rcases List.mem_cons.1 h with rfl | h
            · exact .inl (.inl rfl)
            · exact .inr ⟨h, h2⟩
      · rw [if_neg hm]
        constructor
        · rintro (h | h)
          · exact .inl h
          · exact .inr ⟨List.mem_cons_of_mem _ h.1, h.2⟩
        · rintro (h | ⟨h, h2⟩)
          · exact .inl h
          · rcases List.mem_cons.1 h with rfl | h
            · exact absurd h2 hm
            · exact .inr ⟨h, h2⟩
  have := key L []
  simpa [tbFold] using this
theorem tbOnce_ne {L : List TB} (h : TbOnce L) (k : Nat) (r : TB) (hr : L[k]? = some r) : ∀ x ∈ L.take k, x.id ≠ r.id := by
  intro x hx
  obtain ⟨i, hi⟩ := List.getElem?_of_mem hx
  rw [List.getElem?_take] at hi
  split at hi
  · rename_i hik
    obtain ⟨h1, e1⟩ := List.getElem?_eq_some_iff.1 hi
    obtain ⟨h2, e2⟩ := List.getElem?_eq_some_iff.1 hr
    rw [← e1, ← e2]
    exact List.pairwise_iff_getElem.1 h i k h1 h2 hik
  · cases hi
theorem tbFold_ne {L : List TB} (h : TbOnce L) (k : Nat) (r : TB) (hr : L[k]? = some r) : ∀ x ∈ tbFold (L.take k), x.id ≠ r.id := fun x hx => tbOnce_ne h k r hr x ((tbFold_mem _ x).1 hx).1
theorem tbOnce_rev {L : List TB} (h : TbOnce L) : TbOnce L.reverse := by
  unfold TbOnce
  rw [List.pairwise_reverse]
  exact List.Pairwise.imp (R := fun (a b : TB) => a.id ≠ b.id) (fun hab => hab.symm) h
theorem tbOnce_take {L : List TB} (h : TbOnce L) (k : Nat) : TbOnce (L.take k) := List.Pairwise.sublist (List.take_sublist _ _) h
theorem tbFold_up {L : List TB} (h : TbOnce L) : TbUp (tbFold L) := by
  have key : ∀ k, k ≤ L.length → TbUp (tbFold (L.take k)) := by
    intro k
    induction k with
    | zero => intro _; exact List.Pairwise.nil
    | succ k ih =>
      intro hk
      obtain ⟨r, hr⟩ : ∃ r, L[k]? = some r := ⟨_, List.getElem?_eq_getElem (by omega)⟩
      rw [tbFold_take L k r hr]
      split
      · exact tbPut_up (ih (by omega)) (tbFold_ne h k r hr)
      · exact ih (by omega)
  have := key L.length (Nat.le_refl _)
  rwa [List.take_length] at this
theorem tbUp_len : ∀ (l : List TB) (lo hi : Int), TbUp l → (∀ x ∈ l, lo ≤ x.id ∧ x.id ≤ hi) → (l.length : Int) ≤ max 0 (hi - lo + 1)
  | [], lo, hi, _, _ => by simp; omega
  | a :: l, lo, hi, hu, hb => by
    have h1 := List.pairwise_cons.1 hu
    have ha := hb a List.mem_cons_self
    have ih := tbUp_len l (a.id + 1) hi h1.2 (fun x hx => ⟨by have := h1.1 x hx; omega, (hb x (List.mem_cons_of_mem _ hx)).2⟩)
    rw [List.length_cons]
    omega
theorem tbMay_id {r : TB} (h : tbMay r = true) : 1 ≤ r.id ∧ r.id ≤ 15 := by
  unfold tbMay at h
  simp only [Bool.and_eq_true, decide_eq_true_eq] at h
  omega
theorem tbFold_room {L : List TB} (h : TbOnce L) (k : Nat) (r : TB) (hr : L[k]? = some r) (hm : tbMay r = true) : (tbFold (L.take k)).length < 15 := by
  have hu := tbPut_up (tbFold_up (tbOnce_take h k)) (tbFold_ne h k r hr)
  have := tbUp_len _ 1 15 hu (fun x hx => by
    rcases (tbPut_mem _ _ x).1 hx with rfl | hx
    · exact tbMay_id hm
    · exact tbMay_id ((tbFold_mem _ x).1 hx).2)
  rw [tbPut_len] at this
  omega
theorem tbUp_ext : ∀ (l l' : List TB), TbUp l → TbUp l' → (∀ x, x ∈ l ↔ x ∈ l') → l = l'
  | [], [], _, _, _ => rfl
  | [], b :: l', _, _, h => by have := (h b).2 List.mem_cons_self; cases this
  | a :: l, [], _, _, h => by have := (h a).1 List.mem_cons_self; cases this
  | a :: l, b :: l', hu, hu', h => by
    have h1 := List.pairwise_cons.1 hu
    have h2 := List.pairwise_cons.1 hu'
    have e : a = b := by
      rcases List.mem_cons.1 ((h a).1 List.mem_cons_self) with e | e
      · exact e
      · have x1 := h2.1 a e
        rcases List.mem_cons.1 ((h b).2 List.mem_cons_self) with e' | e'
        · exact e'.symm
        · have x2 := h1.1 b e'
          omega
    subst e
    rw [tbUp_ext l l' h1.2 h2.2 (fun x => ⟨fun hx => ?_, fun hx => ?_⟩)]
    · rcases List.mem_cons.1 ((h x).1 (List.mem_cons_of_mem _ hx)) with e | e
      · subst e; have := h1.1 x hx; omega
      · exact e
    · rcases List.mem_cons.1 ((h x).2 (List.mem_cons_of_mem _ hx)) with e | e
      · subst e; have := h2.1 x hx; omega
      · exact e
theorem tbFold_rev {L : List TB} (h : TbOnce L) : tbFold L.reverse = tbFold L :=
  tbUp_ext _ _ (tbFold_up (tbOnce_rev h)) (tbFold_up h) (fun x => by rw [tbFold_mem, tbFold_mem, List.mem_reverse])
/-- Which IDs were seen. -/
def TbSeen (O : List TB) (f : Int → Option Bool) : Prop := ∀ i : Int, (f i).getD false = true ↔ ∃ x ∈ O, x.id = i
theorem tbSeen_new : TbSeen [] (fun _ => none) := fun i => by simp
theorem TbSeen.add {O : List TB} {f : Int → Option Bool} (h : TbSeen O f) (r : TB) : TbSeen (O ++ [r]) (fun y => if y = r.id then some true else f y) := fun i => by
  by_cases hi : i = r.id
  · subst hi
    simp
  · have := h i
    simp only [if_neg hi]
    rw [this]
    constructor
    · rintro ⟨x, hx, e⟩
      exact ⟨x, List.mem_append.2 (.inl hx), e⟩
    · rintro ⟨x, hx, e⟩
      rcases List.mem_append.1 hx with hx | hx
      · exact ⟨x, hx, e⟩
      · have : x = r := by simpa using hx
        subst this
        exact absurd e.symm hi
theorem TbSeen.again {O : List TB} {f : Int → Option Bool} (h : TbSeen O f) {j : Int} (hj : (f j).getD false = true) : TbSeen O (fun y => if y = j then some true else f y) := fun i => by
  by_cases hi : i = j
  · subst hi
    simp only [if_true, Option.getD_some]
    exact ⟨fun _ => (h i).1 hj, fun _ => trivial⟩
  · simp only [if_neg hi]
    exact h i
theorem tbOnce_snoc {O : List TB} (h : TbOnce O) (r : TB) (hne : ∀ x ∈ O, x.id ≠ r.id) : TbOnce (O ++ [r]) := by
  unfold TbOnce
  rw [List.pairwise_append]
  exact ⟨h, List.pairwise_singleton _ _, fun a ha b hb => by
    have : b = r := by simpa using hb
    subst this
    exact hne a ha⟩
/-- Two tables, apart. -/
structure TbTwo (W : World) (B gt gu : Nat) (vt vu : Value) (lt lu : List TB) : Prop where
  t : TbIn W B gt 15 (lt.length : Int) vt lt
  u : TbIn W B gu 15 (lu.length : Int) vu lu
  ne : gt ≠ gu
  ap : ∀ k, vt.ownBlock = some k → vu.ownBlock ≠ some k
theorem TbTwo.later {W W' : World} {B gt gu : Nat} {vt vu : Value} {lt lu : List TB} (h : TbTwo W B gt gu vt vu lt lu) (hb : Below W.heap.size W W') : TbTwo W' B gt gu vt vu lt lu := ⟨h.t.later hb, h.u.later hb, h.ne, h.ap⟩
theorem TbTwo.swap {W : World} {B gt gu : Nat} {vt vu : Value} {lt lu : List TB} (h : TbTwo W B gt gu vt vu lt lu) : TbTwo W B gu gt vu vt lu lt := ⟨h.u, h.t, h.ne.symm, fun k h1 h2 => h.ap k h2 h1⟩
/-- A call of the first one's Set. -/
theorem TbTwo.set {W : World} {B gt gu : Nat} {vt vu : Value} {lt lu : List TB} (h : TbTwo W B gt gu vt vu lt lu) (r : TB) (hne : ∀ x ∈ lt, x.id ≠ r.id) (hroom : tbMay r = true → lt.length < 15) :
    Calls Try.prog 23 #[.pointer (some ⟨gt, 0, none⟩), .agg #[.int .i64 r.id, .bool r.up, .int .i64 r.rate]] W fun e w' => ∃ (x : Value) (vt' : Value), e = .returned x ∧ TbTwo w' B gt gu vt' vu (if tbMay r = true then tbPut r lt else lt) lu ∧ Below B W w' ∧ W.heap.size ≤ w'.heap.size ∧ (∀ (k : Nat) (cs : Array Value) (T : TypeId), T ≠ 70 → T ≠ 93 → W.heap[k]? = some (.cells cs T (0, 0)) → w'.heap[k]? = W.heap[k]?) := by
  cases hm : tbMay r with
  | false =>
    refine (tbSetBad h.t r hm).mono ?_
    rintro e w' ⟨rfl, hb⟩
    have hB : B ≤ W.heap.size := by have := h.t.bs; have := h.t.at3.lt; omega
    exact ⟨_, vt, rfl, by rw [if_neg (by decide)]; exact h.later hb, hb.mono hB, hb.size, fun k cs T _ _ hk => hb.block k (lt_of_block hk)⟩
  | true =>
    refine (tbSetNew h.t r hm hne (by have := hroom hm; omega) ⟨by omega, by have := h.t.ln; omega⟩).mono ?_
    rintro e w' ⟨v', rfl, hT, hsz, hbl, hv, hb⟩
    have hugt : w'.heap[gu]? = W.heap[gu]? := hbl gu h.u.at3.lt h.ne.symm (fun e => by
      obtain ⟨cs, hcs⟩ := h.t.row.2 gu e
      exact blkB_ne hcs h.u.at3 (by decide) rfl)
    have hur : ∀ k, vu.ownBlock = some k → w'.heap[k]? = W.heap[k]? := fun k hk => hbl k (h.u.row_lt hk).2 (fun e => by
      subst e
      exact h.t.at3 |> fun ha => by
        obtain ⟨cs, hcs⟩ := h.u.row.2 k hk
        exact blkB_ne hcs ha (by decide) rfl) (fun e => h.ap k e hk)
    refine ⟨_, v', rfl, ?_, hb, hsz, fun k cs T h1 h2 hk => hbl k (lt_of_block hk) (fun e => by
      subst e
      exact blkB_ne hk h.t.at3 h2 rfl) (fun e => by
      obtain ⟨cs2, hcs⟩ := h.t.row.2 k e
      exact blkB_ne hk hcs h1 rfl)⟩
    rw [if_pos rfl]
    refine ⟨by rw [tbPut_len]; exact hT, h.u.keep hsz hugt hur, h.ne, fun k hk => ?_⟩
    rcases hv with hv | ⟨j, hv, hj⟩
    · rw [hv] at hk; exact h.ap k hk
    · rw [hv] at hk
      cases hk
      exact fun e => by have := (h.u.row_lt e).2; omega
def tbEntP : List (Value → Prop) := [isNum .i64, isBool, isNum .i64]
theorem tbEnt_at {w wr : World} {a : Option Addr} {n k : Nat} (h : Recs tbEntP w a n) (hb : Below w.heap.size w wr) (hk : k < n) :
    ∃ b off, a = some ⟨b, off, none⟩ ∧ b < w.heap.size ∧ ∃ r : TB, (Lit.int .i64 r.id).wf = true ∧ wr.cell? ⟨b, off + k * 3, none⟩ = some (.int .i64 r.id) ∧ wr.cell? ⟨b, off + k * 3 + 1, none⟩ = some (.bool r.up) ∧ wr.cell? ⟨b, off + k * 3 + 2, none⟩ = some (.int .i64 r.rate) := by
  rcases h with h | ⟨b, off, rfl, hlt, hc⟩
  · omega
  · obtain ⟨v0, h0, id, rfl, q0⟩ := hc k hk 0 _ rfl
    obtain ⟨v1, h1, up, rfl⟩ := hc k hk 1 _ rfl
    obtain ⟨v2, h2, rate, rfl, q2⟩ := hc k hk 2 _ rfl
    have e := fun i => hb.cell (p := ⟨b, off + k * 3 + i, none⟩) hlt
    refine ⟨b, off, rfl, hlt, ⟨id, up, rate⟩, q0, ?_, ?_, ?_⟩
    · rw [hb.cell (p := ⟨b, off + k * 3, none⟩) hlt]; exact h0
    · rw [e 1]; exact h1
    · rw [e 2]; exact h2
theorem ownE_rdB {W : World} {base : Nat} {v : Value} {l : List TB} {T : TypeId} (h : OwnE W base T 3 v l.length (tbV l)) : ∃ a cap, v = .slice a l.length cap ∧ l.length ≤ cap ∧ cap ≤ 9223372036854775807 ∧ ∀ i r, l[i]? = some r → ∃ g off, a = some ⟨g, off, none⟩ ∧ W.cell? ⟨g, off + i * 3, none⟩ = some (.int .i64 r.id) ∧ W.cell? ⟨g, off + i * 3 + 1, none⟩ = some (.bool r.up) ∧ W.cell? ⟨g, off + i * 3 + 2, none⟩ = some (.int .i64 r.rate) := by
  rcases h.1.2 with ⟨rfl, h0⟩ | ⟨g, off, cap, rfl, _, _, h1, h2, _, hc⟩
  · refine ⟨none, 0, by rw [h0], by omega, by omega, fun i r hr => ?_⟩
    have := (List.getElem?_eq_some_iff.1 hr).1
    omega
  · refine ⟨_, _, rfl, h1, by unfold maxLen at h2; omega, fun i r hr => ⟨g, off, rfl, ?_⟩⟩
    have f := fun j u hj => hc _ u (rowsV_at TB.rs_len l i r hr j u hj)
    refine ⟨?_, ?_, ?_⟩
    · exact f 0 _ rfl
    · rw [Nat.add_assoc]; exact f 1 _ rfl
    · rw [Nat.add_assoc]; exact f 2 _ rfl
theorem tbV_snoc (l : List TB) (r : TB) : tbV (l ++ [r]) = tbV l ++ r.rs := rowsV_snoc l r
theorem tb_refInfo : (Try.prog.info? 54).map (fun i => (i.zero, i.size, i.bytes)) = some (some (.agg #[.int .i64 0, .bool false, .int .i64 0]), 3, 24) := by kernel_rfl
end Go.Proofs.Ytilobmebfeenfaa
