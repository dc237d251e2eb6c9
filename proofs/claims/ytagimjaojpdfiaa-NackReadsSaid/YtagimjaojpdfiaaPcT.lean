/- piece.Split; the document's; the statements' Is. -/
import Derived.Test.YtagimjaojpdfiaaPcS
import Derived.Test.YtagimjaojpdfiaaPcP
namespace Go.Proofs.Ytagimjaojpdfiaa
open Go.RowKit
set_option linter.unusedVariables false
/-- 'append' of one struct to a row of the call's own. -/
theorem append_rec {P : Program} {w W : World} {ops : Array Oper} {rest : List Oper} {o : Oper} {a : Act} {Q : Exit → Act → World → Prop} (hgd : o.guard = none) (s x : Operand) (t : TypeId)
    (ho : o.op = .call { callee := .builtin .append, args := #[s, x], argTypes := #[t, t] })
    (base : Nat) (e : TypeId) (i : TypeInfo) (z : Value) (size bytes : Nat) (ht : P.underlying t = some (.slice e)) (hi : P.info? e = some i) (hz : i.zero = some z)
    (hsize : i.size = size) (hby : i.bytes = bytes) (hzs : z.cells.size = size) (h0 : 0 < size)
    (v : Value) (n : Nat) (xs : List Value) (hs : a.eval s = v) (hown : w.ownsRow base e size v n xs)
    (cs : Array Value) (hcs : cs.size = size) (hx : a.eval x = .slice (some ⟨w.heap.size, 0, none⟩) 1 1) (h1 : ∀ u ∈ cs.toList, u.oneCell' = true)
    (h63 : n + 1 ≤ maxLen) (hbytes : (n + 1) * bytes ≤ 140737488355328) (B : Nat) (hB : B ≤ base) (hbase : base ≤ w.heap.size) (hbel : Below B W w)
    (h : ∀ v' w', w'.ownsRow base e size v' (n + 1) (xs ++ cs.toList) → Below B W w' → (w.alloc (.cells cs e)).grownBy w' v.ownBlock → wpList P ops Q rest (a.put o.dst v') w') :
    wpList P ops Q (o :: rest) a (w.alloc (.cells cs e)) := by
  refine wpList_append_own _ hgd s x t ho base e i z size bytes ht hi hz hsize hby hzs h0 v n xs hs (hown.alloc _) ⟨w.heap.size, 0, none⟩ 1 1 cs.toList hx (by simp [hcs]) ?_ h1 h63 hbytes ?_ ?_
  · intro j u hj
    rw [addr_add, cell_of_row _ w.heap.size j cs e (0, 0) (heap_alloc_new w _), ← Array.getElem?_toList]
    exact hj
  · simp; omega
  · intro v' w' hown' hgrow _
    refine h v' w' hown' ?_ hgrow
    refine (hbel.alloc (by omega) _).grown hgrow (by simp; omega) ?_
    intro k hk
    exact Nat.le_trans hB (hown.lt k hk).1
def finL (s : ByteArray) : List PC := if (split s).1 = 0 then (split s).2 else []
/-- What Split leaves. -/
def Splitted (s : ByteArray) (w : World) (e : Ending) (w' : World) : Prop :=
  Below w.heap.size w w' ∧ ∃ a c, e = .returned (.tuple #[.slice a (finL s).length c, .int .i64 (split s).1]) ∧ ReadsP w' a (finL s)
def sliceLen : Value → Nat
  | .slice _ n _ => n
  | _ => 0
def textLen : Value → Nat
  | .string s => s.size
  | _ => 0
theorem row_neP {w : World} {B : Nat} {e : TypeId} {m : Nat} {v : Value} {n : Nat} {xs : List Value} (h : w.ownsRow B e m v n xs) {k : Nat} {o : Obj} (hk : w.heap[k]? = some o) (hn : ∀ cur p, o ≠ .cells cur e p) : some k ≠ v.ownBlock := by
  intro he
  rcases h.2 with ⟨rfl, _⟩ | ⟨g, cap, cur, rfl, _, hg, _⟩
  · cases he
  · simp only [Value.ownBlock, Option.some.injEq] at he
    subst he
    rw [hg] at hk
    exact hn _ _ (Option.some.inj hk).symm
theorem ret_split {a : Option Addr} {c n n' : Nat} {er er' : Int} (h1 : n = n') (h2 : er = er') : Ending.returned (.tuple #[.slice a n c, .int .i64 er]) = .returned (.tuple #[.slice a n' c, .int .i64 er']) := by rw [h1, h2]
/-- Where Split stands: s1 is left of s, l are the pieces ahead of it; er the first error. -/
def SpR (s s1 : ByteArray) (l : List PC) (er : Int) : Prop :=
  (er = 0 ∧ split s = ((split s1).1, l ++ (split s1).2)) ∨ (er ≠ 0 ∧ s1.size = 0 ∧ (split s).1 = er)
theorem spR_start (s : ByteArray) : SpR s s [] 0 := .inl ⟨rfl, by rw [List.nil_append]⟩
theorem pcR_lt (s : ByteArray) (h : pcE s = 0) : (pcR s).size < s.size := by
  have h1 := (pcE_zero s h).1
  rw [pcR_size]
  clear h
  omega
theorem spR_step (s s1 : ByteArray) (l : List PC) (er : Int) (h : SpR s s1 l er) (h0 : s1.size ≠ 0) : SpR s (nxZ s1).1 (l ++ [nxP s1]) (nxZ s1).2 ∧ er = 0 ∧ (nxZ s1).1.size < s1.size := by
  rcases h with ⟨h1, h2⟩ | ⟨_, h2, _⟩
  · rcases nx_ok s1 with ⟨e1, e2, e3, e4⟩ | ⟨e1, e2, e3⟩
    · rw [e2, e3, e4]
      refine ⟨.inl ⟨rfl, ?_⟩, h1, pcR_lt s1 e1⟩
      rw [h2, split_good1 s1 h0 e1, split_good2 s1 h0 e1, List.append_assoc, List.singleton_append]
    · rw [e3]
      refine ⟨.inr ⟨e1, e2, ?_⟩, h1, by rw [e2]; exact Nat.pos_of_ne_zero h0⟩
      rw [h2, split_bad s1 h0 e1]
  · exact absurd h2 h0
theorem spR_end (s s1 : ByteArray) (l : List PC) (er : Int) (h : SpR s s1 l er) (h0 : s1.size = 0) : (split s).1 = er ∧ (er = 0 → finL s = l) ∧ (er ≠ 0 → finL s = []) := by
  rcases h with ⟨h1, h2⟩ | ⟨h1, _, h3⟩
  · have e : split s = (0, l) := by rw [h2, split_nil s1 h0, List.append_nil]
    refine ⟨by rw [e, h1], fun _ => ?_, fun h => absurd h1 h⟩
    unfold finL; rw [e, if_pos rfl]
  · refine ⟨h3, fun h => absurd h h1, fun _ => ?_⟩
    unfold finL; rw [h3, if_neg h1]
theorem nxP_vals (s : ByteArray) : (nxP s).vals = [.int .i64 (nxP s).count, .int .i64 (nxP s).kind, .string (nxP s).body] := rfl
set_option maxRecDepth 100000 in
set_option maxHeartbeats 1600000 in
theorem split_any (s : ByteArray) (w : World) (hs : s.size ≤ 1000000000) : Calls Try.prog 38 #[.string s] w (Splitted s w) := by
  obtain ⟨i0, hi, hz0, hz1, hz2⟩ := info_parts infoPc
  have hI0 := inAt_new s w
  have hb0 : Below w.heap.size w (w.alloc (.cells #[.string s, .int .i64 0] 199)) := (Below.refl _ _).alloc (Nat.le_refl _) _
  go_enter Try.func38, Try.ntmps38
  go_wp2_with ((go_at_call 58; refine (of_any _ _).mono ?_; rintro e w' ⟨rfl, rfl⟩))
  generalize w.alloc (.cells #[.string s, .int .i64 0] 199) = w1 at hI0 hb0 ⊢
  obtain ⟨b, hb⟩ : ∃ b, w.heap.size = b := ⟨_, rfl⟩
  have Hb := Lib.hid hb
  rw [hb] at hI0 hb0 ⊢
  clear hb
  go_loopw [4] (fun v wr => ∃ (l : List PC) (s1 : ByteArray) (er : Int), wr.ownsRow b 28 3 v l.length (pcsV l) ∧ InAt wr b s1 er ∧ Below b w wr ∧ l.length + s1.size ≤ s.size ∧ Hid (SpR s s1 l er)) (fun v _ => s.size - sliceLen v)
  case atStart => exact ⟨[], s, 0, World.ownsRow_nil _ _ _ _, hI0, hb0, by simp, Lib.hid (spR_start s)⟩
  case round =>
    obtain ⟨l, s1, er, hown, hI, hb1, hlen, HS⟩ := hrel
    clear hI0 hb0
    have hs1 : s1.size ≤ 1000000000 := by omega
    by_cases h0 : s1.size = 0
    · obtain ⟨q1, q2, q3⟩ := spR_end s s1 l er HS.out h0
      have Q1 := Lib.hid q1
      have Q2 := Lib.hid q2
      have Q3 := Lib.hid q3
      clear q1 q2 q3
      have h0' : (s1.size : Int) = 0 := by omega
      have HL := fun W (h : InAt W b s1 er) => left_any b s1 er W h
      rw [h0'] at HL
      have HE := fun W (h : InAt W b s1 er) => err_any b s1 er W h
      by_cases he : er = 0
      · subst he
        have q := Q2.out rfl
        obtain ⟨a, c, rfl, _, _, _, hr⟩ := own_readsP hown
        go_wp2_with (first | (go_at_call 60; refine (HL _ hI).mono ?_; rintro e w' ⟨rfl, rfl⟩) | (go_at_call 85; refine (HE _ hI).mono ?_; rintro e w' ⟨rfl, rfl⟩))
        go_ret2
        exact ⟨by rw [Hb.out]; exact hb1, a, c, ret_split (by rw [q]) Q1.out.symm, by rw [q]; exact hr⟩
      · have he2 : (er != 0) = true := by simpa using he
        have q := Q3.out he
        clear he
        obtain ⟨a, c, rfl, _, _, _, hr⟩ := own_readsP hown
        go_wp2_with (first | (go_at_call 60; refine (HL _ hI).mono ?_; rintro e w' ⟨rfl, rfl⟩) | (go_at_call 85; refine (HE _ hI).mono ?_; rintro e w' ⟨rfl, rfl⟩))
        go_ret2
        exact ⟨by rw [Hb.out]; exact hb1, none, 0, ret_split (by rw [q]; rfl) Q1.out.symm, by rw [q]; exact .inl rfl⟩
    · obtain ⟨q1, q2, q3⟩ := spR_step s s1 l er HS.out h0
      subst q2
      have Q1 := Lib.hid q1
      have h1 : 0 < (s1.size : Int) := by omega
      have HL := Lib.hid (fun W (h : InAt W b s1 0) => left_any b s1 0 W h)
      have HN := next_any b s1 wr hI (by omega)
      have hne := row_neP hown hI (by intro cur p e; cases e)
      unfold Nexted at HN
      have hpv : pcsV (l ++ [nxP s1]) = pcsV l ++ [.int .i64 (nxP s1).count, .int .i64 (nxP s1).kind, .string (nxP s1).body] := pcsV_snoc l _
      have Hpv := Lib.hid hpv
      clear q1 hpv
      generalize nxP s1 = p at HN Q1 Hpv
      have hz : (nxZ s1).1.size < s1.size := q3
      clear q3
      generalize nxZ s1 = zt at HN Q1 hz
      have HN' := Lib.hid HN
      clear HN h0
      obtain ⟨a, c, rfl, _, _, _, _⟩ := own_readsP hown
      go_wp2_with (first | (go_at_call 60; refine (HL.out _ hI).mono ?_; rintro e w' ⟨rfl, rfl⟩))
      refine HN'.out.mono ?_
      rintro e w2 ⟨rfl, hI2, hx2⟩
      have hown2 := own_ex hown hx2 hne
      have hb2 := hb1.trans (hx2.below (Nat.le_refl _) (by have := hI.lt; omega))
      have hbs : b ≤ w2.heap.size := by have := hI2.lt; omega
      clear hown hI hb1 hx2 hne HN'
      go_wp2_with (at_builtin; refine append_rec rfl (.tmp 11) (.tmp 14) 91 rfl b 28 i0 (.agg #[.int .i64 0, .int .i64 0, .string { data := #[] }]) 3 32 Try.underlying91 hi hz0 hz1 hz2 rfl (by decide) _ l.length (pcsV l) rfl hown2 #[.int .i64 p.count, .int .i64 p.kind, .string p.body] rfl rfl ?d1 ?d2 ?d3 b (Nat.le_refl _) hbs hb2 ?_)
      case d1 => exact ⟨rfl, rfl, rfl⟩
      case d2 => unfold maxLen; omega
      case d3 => omega
      intro v' w3 hown3 hb3 hg3
      have hI3 : InAt w3 b zt.1 zt.2 := by
        have h := hI2.alloc (.cells #[.int .i64 p.count, .int .i64 p.kind, .string p.body] 28)
        unfold InAt at h ⊢
        rw [hg3.block b (lt_of_block h) (row_neP hown2 hI2 (by intro cur p e; cases e))]
        exact h
      have hown4 : w3.ownsRow b 28 3 v' (l ++ [p]).length (pcsV (l ++ [p])) := by
        rw [Hpv.out, List.length_append]
        exact hown3
      clear hown2 hown3 hI2 hb2 hg3
      obtain ⟨a2, c2, rfl, _, _, _, _⟩ := own_readsP hown4
      go_wp2
      go_roundw
      case rel => exact ⟨l ++ [p], zt.1, zt.2, hown4, hI3, hb3, by rw [List.length_append]; show l.length + 1 + _ ≤ _; omega, Q1⟩
      case measure => simp [sliceLen]; omega
end Go.Proofs.Ytagimjaojpdfiaa
