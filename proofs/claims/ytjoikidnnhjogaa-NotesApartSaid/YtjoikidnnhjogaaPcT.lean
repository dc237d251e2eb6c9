/- piece.Split; the document's; the statements' Is. -/
import Derived.Test.YtjoikidnnhjogaaPcS
import Derived.Test.YtjoikidnnhjogaaPcP
namespace Go.Proofs.Ytjoikidnnhjogaa
open Go.RowKit
set_option linter.unusedVariables false
/-- 'append' of one struct to a row of the call's own. -/
theorem append_rec {P : Program} {w W : World} {ops : Array Oper} {rest : List Oper} {o : Oper} {a : Act} {Q : Exit → Act → World → Prop} (hgd : o.guard = none) (s x : Operand) (t : TypeId)
    (ho : o.op = .call { callee := .builtin .append, args := #[s, x], argTypes := #[t, t] })
    (base : Nat) (e : TypeId) (i : TypeInfo) (z : Value) (size bytes : Nat) (ht : P.underlying t = some (.slice e)) (hi : P.info? e = some i) (hz : i.zero = some z)
    (hsize : i.size = size) (hby : i.bytes = bytes) (hzs : z.cells.size = size) (h0 : 0 < size)
    (v : Value) (n : Nat) (xs : List Value) (hs : a.eval s = v) (hown : w.ownsRow base e size v n xs)
    (cs : Array Value) (hcs : cs.size = size) (hx : a.eval x = .slice (some ⟨w.heap.size, 0, none⟩) 1 1) (h1 : ∀ u ∈ cs.toList, u.oneCell' = true)
    (h63 : n + 1 ≤ maxLen) (hbytes : (n + 1) * bytes ≤ 140737488355328) (B : Nat) (hB : B ≤ base) (hbase : base ≤ w.heap.size) (hbel : Below B W w)
    (h : ∀ v' w', w'.ownsRow base e size v' (n + 1) (xs ++ cs.toList) → Below B W w' → (w.alloc (.cells cs e)).grownBy w' v.ownBlock → wpList P ops Q rest (a.put o.dst v') w') :
    wpList P ops Q (o :: rest) a (w.alloc (.cells cs e)) := by
  refine wpList_append_own _ hgd s x t ho base e i z size bytes ht hi hz hsize hby hzs h0 v n xs hs (hown.alloc _) ⟨w.heap.size, 0, none⟩ 1 1 cs.toList hx (by simp [hcs]) ?_ h1 h63 hbytes ?_ ?_
  · intro j u hj
    rw [addr_add, cell_of_row _ w.heap.size j cs e (0, 0) (heap_alloc_new w _), ← Array.getElem?_toList]
    exact hj
  · simp; omega
  · intro v' w' hown' hgrow _
    refine h v' w' hown' ?_ hgrow
    refine (hbel.alloc (by omega) _).grown hgrow (by simp; omega) ?_
    intro k hk
    exact Nat.le_trans hB (hown.lt k hk).1
def finL (s : ByteArray) : List PC := if (split s).1 = 0 then (split s).2 else []
/-- What Split leaves. -/
def Splitted (s : ByteArray) (w : World) (e : Ending) (w' : World) : Prop :=
  Below w.heap.size w w' ∧ ∃ a c, e = .returned (.tuple #[.slice a (finL s).length c, .int .i64 (split s).1]) ∧ ReadsP w' a (finL s)
def sliceLen : Value → Nat
  | .slice _ n _ => n
  | _ => 0
def textLen : Value → Nat
  | .string s => s.size
  | _ => 0
theorem row_neP {w : World} {B : Nat} {e : TypeId} {m : Nat} {v : Value} {n : Nat} {xs : List Value} (h : w.ownsRow B e m v n xs) {k : Nat} {o : Obj} (hk : w.heap[k]? = some o) (hn : ∀ cur p, o ≠ .cells cur e p) : some k ≠ v.ownBlock := by
  intro he
  rcases h.2 with ⟨rfl, _⟩ | ⟨g, cap, cur, rfl, _, hg, _⟩
  · cases he
  · simp only [Value.ownBlock, Option.some.injEq] at he
    subst he
    rw [hg] at hk
    exact hn _ _ (Option.some.inj hk).symm
theorem ret_split {a : Option Addr} {c n n' : Nat} {er er' : Int} (h1 : n = n') (h2 : er = er') : Ending.returned (.tuple #[.slice a n c, .int .i64 er]) = .returned (.tuple #[.slice a n' c, .int .i64 er']) := by rw [h1, h2]
/-- Where Split stands: s1 is left of s, l are the pieces ahead of it; er the first error. -/
def SpR (s s1 : ByteArray) (l : List PC) (er : Int) : Prop :=
  (er = 0 ∧ split s = ((split s1).1, l ++ (split s1).2)) ∨ (er ≠ 0 ∧ s1.size = 0 ∧ (split s).1 = er)
theorem spR_start (s : ByteArray) : SpR s s [] 0 := .inl ⟨rfl, by rw [List.nil_append]⟩
theorem pcR_lt (s : ByteArray) (h : pcE s = 0) : (pcR s).size < s.size := by
  have h1 := (pcE_zero s h).1
  rw [pcR_size]
  clear h
  omega
theorem spR_step (s s1 : ByteArray) (l : List PC) (er : Int) (h : SpR s s1 l er) (h0 : s1.size ≠ 0) : SpR s (nxZ s1).1 (l ++ [nxP s1]) (nxZ s1).2 ∧ er = 0 ∧ (nxZ s1).1.size < s1.size := by
  rcases h with ⟨h1, h2⟩ | ⟨_, h2, _⟩
  · rcases nx_ok s1 with ⟨e1, e2, e3, e4⟩ | ⟨e1, e2, e3⟩
    · rw [e2, e3, e4]
      refine ⟨.inl ⟨rfl, ?_⟩, h1, pcR_lt s1 e1⟩
      rw [h2, split_good1 s1 h0 e1, split_good2 s1 h0 e1, List.append_assoc, List.singleton_append]
    · rw [e3]
      refine ⟨.inr ⟨e1, e2, ?_⟩, h1, by rw [e2]; exact Nat.pos_of_ne_zero h0⟩
      rw [h2, split_bad s1 h0 e1]
  · exact absurd h2 h0
theorem spR_end (s s1 : ByteArray) (l : List PC) (er : Int) (h : SpR s s1 l er) (h0 : s1.size = 0) : (split s).1 = er ∧ (er = 0 → finL s = l) ∧ (er ≠ 0 → finL s = []) := by
  rcases h with ⟨h1, h2⟩ | ⟨h1, _, h3⟩
  · have e : split s = (0, l) := by rw [h2, split_nil s1 h0, List.append_nil]
    refine ⟨by rw [e, h1], fun _ => ?_, fun h => absurd h1 h⟩
    unfold finL; rw [e, if_pos rfl]
  · refine ⟨h3, fun h => absurd h h1, fun _ => ?_⟩
    unfold finL; rw [h3, if_neg h1]
theorem nxP_vals (s : ByteArray) : (nxP s).vals = [.int .i64 (nxP s).count, .int .i64 (nxP s).kind, .string (nxP s).body] := rfl
end Go.Proofs.Ytjoikidnnhjogaa

