/- rtp: padding, the header's bytes, Pack. -/
import Derived.Test.YtjoikidnnhjogaaMa
import Derived.Test.YtjoikidnnhjogaaShelf
import Derived.Deep.RegionHeld3
import Derived.RegionTactic
import Derived.BigRegion
import Derived.BigQuiet
import Derived.Deep.QuietTactic
import Derived.Deep.DeepCutAuto
namespace Go.Proofs.Ytjoikidnnhjogaa
open Go.RowKit
set_option linter.unusedVariables false
theorem repeatL_zero : ∀ n : Nat, Lib.repeatL [(0 : UInt8)] n = List.replicate n 0
  | 0 => rfl
  | n + 1 => by rw [Lib.repeatL, repeatL_zero n]; rfl
theorem repeat_at (S : Int) (c : Nat) (w : World) (hS : S = (c : Int)) (hc : c ≤ 1000) :
    Calls Try.prog 105 #[.string { data := #[0] }, .int .i64 S] w fun e w' => e = .returned (.string (ofL (List.replicate c 0))) ∧ Below w.heap.size w w' := by
  have hz : (ByteArray.mk #[0]).size = 1 := rfl
  have h := Try.strings_Repeat { data := #[0] } c w (by omega) (by rw [hz]; omega)
  have e : Lib.repeatL (ByteArray.mk #[0]).data.toList c = List.replicate c 0 := repeatL_zero c
  rw [e] at h
  rw [hS]
  exact h
/-- The last bytes of a packet that is padded. -/
def padL (n : Nat) : List UInt8 := List.replicate (n - 1) 0 ++ [UInt8.ofNat n]
theorem conv_byte (x : Int) (W : World) (g : Nat) (h : W.cell? ⟨g, 0, none⟩ = some (.int .u8 x)) : Sem.run Try.prog (convert 135 9 (.slice (some ⟨g, 0, none⟩) 1 1)) W = Result.ok (.string (strOfNums [x])) W := by
  refine run_convert_bytes_arg (P := Try.prog) _ 135 5 Try.underlying135 Try.underlying5 g 0 1 1 [x] rfl (fun i hi => ?_) 9 Try.underlying9
  match i, hi with
  | 0, _ => exact h
/-- The bytes of a header of a packet that is padded, or isn't. -/
def hdrL (p : PK) (pd : Bool) : List UInt8 :=
  be (128 + p.others.length + (if pd then 32 else 0) + (if p.hx then 16 else 0)) 1 ++ be (p.kind + (if p.mrk then 128 else 0)) 1 ++ be p.seq 2 ++ be p.time 4 ++ be p.source 4 ++ bes p.others 4 ++
  (if p.hx then be p.prof 2 ++ be ((p.ext.size / 4 : Nat) : Int) 2 ++ by_ p.ext else [])
/-- The bytes of a packet. -/
def packL (p : PK) : List UInt8 := hdrL p (decide (0 < p.pad)) ++ by_ p.data ++ (if 0 < p.pad then padL p.pad.toNat else [])
/-- The packet's numbers are of their kinds. -/
def PK.ok (p : PK) : Prop := (0 ≤ p.seq ∧ p.seq ≤ 65535) ∧ (0 ≤ p.time ∧ p.time ≤ 4294967295) ∧ (0 ≤ p.source ∧ p.source ≤ 4294967295) ∧ ∀ x ∈ p.others, 0 ≤ x ∧ x ≤ 4294967295
theorem u8_g (B b : Nat) (v : Value) (L : List UInt8) (zs : List Int) (cs : Array Value) (n g : Nat) (W0 W : World) (hO : OutAt W0 B b v L) (hb : Below W0.heap.size W0 W) (hblk : W.heap[g]? = some (.cells cs 3 (0, 0))) (hg : g ≠ b) (hcs : cs.toList = zs.map (Value.int .i64)) (hn : n = zs.length) (hL : L.length + zs.length * 1 ≤ 1099511627776) (hl : zs.length ≤ 1099511627776) :
    Calls Try.prog 66 #[.pointer (some ⟨b, 0, none⟩), .slice (some ⟨g, 0, none⟩) n n] W (Wrote B b (L ++ bes zs 1) W) :=
  u8_any B b v L zs _ n n _ (hO.later hb) hn (fun w' _ ho => lit_reads hblk hcs hg (by decide) w' ho) hl hL
theorem u16_g (B b : Nat) (v : Value) (L : List UInt8) (zs : List Int) (cs : Array Value) (n g : Nat) (W0 W : World) (hO : OutAt W0 B b v L) (hb : Below W0.heap.size W0 W) (hblk : W.heap[g]? = some (.cells cs 3 (0, 0))) (hg : g ≠ b) (hcs : cs.toList = zs.map (Value.int .i64)) (hn : n = zs.length) (hL : L.length + zs.length * 2 ≤ 1099511627776) (hl : zs.length ≤ 1099511627776) :
    Calls Try.prog 92 #[.pointer (some ⟨b, 0, none⟩), .slice (some ⟨g, 0, none⟩) n n] W (Wrote B b (L ++ bes zs 2) W) :=
  u16_any B b v L zs _ n n _ (hO.later hb) hn (fun w' _ ho => lit_reads hblk hcs hg (by decide) w' ho) hl hL
theorem u32_g (B b : Nat) (v : Value) (L : List UInt8) (zs : List Int) (cs : Array Value) (n g : Nat) (W0 W : World) (hO : OutAt W0 B b v L) (hb : Below W0.heap.size W0 W) (hblk : W.heap[g]? = some (.cells cs 26 (0, 0))) (hg : g ≠ b) (hcs : cs.toList = zs.map (Value.int .u32)) (hn : n = zs.length) (hL : L.length + zs.length * 4 ≤ 1099511627776) (hl : zs.length ≤ 1099511627776) :
    Calls Try.prog 65 #[.pointer (some ⟨b, 0, none⟩), .slice (some ⟨g, 0, none⟩) n n] W (Wrote B b (L ++ bes zs 4) W) :=
  u32_any B b v L zs _ n n _ (hO.later hb) hn (fun w' _ ho => lit_reads hblk hcs hg (by decide) w' ho) hl hL
theorem outRaw_g (B b : Nat) (v : Value) (L : List UInt8) (zs : List ByteArray) (cs : Array Value) (n g : Nat) (W0 W : World) (hO : OutAt W0 B b v L) (hb : Below W0.heap.size W0 W) (hblk : W.heap[g]? = some (.cells cs 9 (0, 0))) (hg : g ≠ b) (hcs : cs.toList = zs.map Value.string) (hn : n = zs.length) (hL : L.length + (cat zs).length ≤ 1099511627776) (hl : zs.length ≤ 1099511627776) :
    Calls Try.prog 67 #[.pointer (some ⟨b, 0, none⟩), .slice (some ⟨g, 0, none⟩) n n] W (Wrote B b (L ++ cat zs) W) :=
  outRaw_any B b v L zs _ n n _ (hO.later hb) hn (fun w' _ ho => lit_readsT hblk hcs hg (by decide) w' ho) hl hL
theorem heap_at_new (W : World) (o : Obj) (g : Nat) (hg : g = W.heap.size) : (W.alloc o).heap[g]? = some o := by subst hg; exact heap_alloc_new W o
theorem heap_at_old (W : World) (o o' : Obj) (g : Nat) (h : W.heap[g]? = some o') : (W.alloc o).heap[g]? = some o' := by
  rw [Below.heap_alloc _ _ _ (lt_of_block h)]; exact h
theorem heap_drewN (W : World) (n k : Nat) : (W.drewN n).heap[k]? = W.heap[k]? := (below_drewN (Below.refl (k + 1) W) n).block k (by omega)
theorem Others.drewN {b : Nat} {w w' : World} (h : Others b w w') (n : Nat) : Others b w (w'.drewN n) := fun k o hk hb hn => by rw [heap_drewN]; exact h k o hk hb hn
/-- What writing a header leaves. -/
def WroteH (B b : Nat) (L : List UInt8) (w : World) (e : Ending) (w' : World) : Prop := e = .returned (.tuple #[]) ∧ ∃ v', OutAt w' B b v' L ∧ Below B w w' ∧ Others b w w'
end Go.Proofs.Ytjoikidnnhjogaa

/- rtp: Pack. -/
namespace Go.Proofs.Ytjoikidnnhjogaa
open Go.RowKit
set_option linter.unusedVariables false
theorem hdrL_len (p : PK) (pd : Bool) (hp : hdrOk p) : (hdrL p pd).length ≤ 263000 := by
  obtain ⟨_, _, hl, hf, ht⟩ := hp
  unfold hdrL
  simp only [List.length_append, be_len, bes_len]
  cases hx : p.hx
  · simp; omega
  · have := ht hx
    simp [be_len, by_len]; omega
theorem padL_len (n : Nat) (h : 1 ≤ n) : (padL n).length = n := by simp [padL]; omega
end Go.Proofs.Ytjoikidnnhjogaa

/- rtp: reading a header. -/
namespace Go.Proofs.Ytjoikidnnhjogaa
open Go.RowKit
set_option linter.unusedVariables false
theorem row_ne {w : World} {B : Nat} {e : TypeId} {v : Value} {n : Nat} {xs : List Value} (h : w.ownsRow B e 1 v n xs) {k : Nat} {o : Obj} (hk : w.heap[k]? = some o) (hn : ∀ cur p, o ≠ .cells cur e p) : some k ≠ v.ownBlock := by
  intro he
  rcases h.2 with ⟨rfl, _⟩ | ⟨g, cap, cur, rfl, _, hg, _⟩
  · cases he
  · simp only [Value.ownBlock, Option.some.injEq] at he
    subst he
    rw [hg] at hk
    exact hn _ _ (Option.some.inj hk).symm
theorem own_only {w w' : World} {B b : Nat} {e : TypeId} {v : Value} {n : Nat} {xs : List Value} {o : Obj} (h : w.ownsRow B e 1 v n xs) (hk : w.heap[b]? = some o) (hn : ∀ cur p, o ≠ .cells cur e p) (ho : Only b w w') : w'.ownsRow B e 1 v n xs := by
  refine h.kept (row := some b) ⟨ho.os, ho.tape, ho.output, by rw [ho.size]; exact Nat.le_refl _, fun k _ hkb => ho.block k (fun e => hkb (by rw [e]))⟩ (.inr (fun e => row_ne h hk hn e.symm))
theorem in_ne (s : ByteArray) (er : Int) (q : Nat × Nat) : ∀ cur p, Obj.cells #[.string s, .int .i64 er] 189 q ≠ .cells cur 26 p := by intro cur p e; cases e
section
variable {W w' : World} {g b : Nat} {c0 c1 c2 c3 c4 c5 c6 c7 c8 c9 c10 : Value}
end
theorem inAt_set {w : World} {b b' i : Nat} {s : ByteArray} {er : Int} {u : Value} (h : InAt w b s er) (hne : b' ≠ b) : InAt (w.setCell ⟨b', i, none⟩ u) b s er := by
  unfold InAt; rw [Below.heap_setCell _ _ _ _ (fun e => hne e.symm)]; exact h
def rds (st : ByteArray × Int) : Nat → ByteArray × Int
  | 0 => st
  | k + 1 => rd (rds st k) 4
def osF (st : ByteArray × Int) (k : Nat) : List Int := (List.range k).map fun i => (getN (by_ (rawT (rds st i).1 4)) : Int)
theorem osF_succ (st : ByteArray × Int) (k : Nat) : osF st (k + 1) = osF st k ++ [(getN (by_ (rawT (rds st k).1 4)) : Int)] := by simp [osF, List.range_succ]
theorem osF_len (st : ByteArray × Int) (k : Nat) : (osF st k).length = k := by simp [osF]
theorem rds_le (st : ByteArray × Int) : ∀ k, (rds st k).1.size ≤ st.1.size
  | 0 => Nat.le_refl _
  | k + 1 => Nat.le_trans (rawS_le _ _ _) (rds_le st k)
theorem info32 : (Try.prog.info? 26).map (fun i => (i.zero, i.size, i.bytes)) = some (some (.int .u32 0), 1, 4) := by kernel_rfl
theorem i64_and128 (n : Nat) (h : n ≤ 255) : bits .and .i64 (n : Int) 128 = ((n / 128 * 128 : Nat) : Int) := by
  have key : ∀ m : Fin 256, bits .and .i64 ((m.val : Nat) : Int) 128 = ((m.val / 128 * 128 : Nat) : Int) := by decide +kernel
  exact key ⟨n, by omega⟩
theorem i64_and127 (n : Nat) (h : n ≤ 255) : bits .and .i64 (n : Int) 127 = ((n % 128 : Nat) : Int) := by
  have h2 := i64_mask (n : Int) 7 (by decide)
  simp only [show (2 ^ 7 - 1 : Nat) = 127 from rfl, show (2 ^ 7 : Nat) = 128 from rfl] at h2
  have h3 : bits .and .i64 (n : Int) 127 = (n : Int) % 128 := h2
  rw [h3]; omega
theorem i64_and15 (n : Nat) (h : n ≤ 255) : bits .and .i64 (n : Int) 15 = ((n % 16 : Nat) : Int) := by
  have h2 := i64_mask (n : Int) 4 (by decide)
  have h3 : bits .and .i64 (n : Int) 15 = (n : Int) % 16 := h2
  rw [h3]; omega
theorem i64_and16 (n : Nat) (h : n ≤ 255) : bits .and .i64 (n : Int) 16 = ((n / 16 % 2 * 16 : Nat) : Int) := by
  have key : ∀ m : Fin 256, bits .and .i64 ((m.val : Nat) : Int) 16 = ((m.val / 16 % 2 * 16 : Nat) : Int) := by decide +kernel
  exact key ⟨n, by omega⟩
theorem i64_and32 (n : Nat) (h : n ≤ 255) : bits .and .i64 (n : Int) 32 = ((n / 32 % 2 * 32 : Nat) : Int) := by
  have key : ∀ m : Fin 256, bits .and .i64 ((m.val : Nat) : Int) 32 = ((m.val / 32 % 2 * 32 : Nat) : Int) := by decide +kernel
  exact key ⟨n, by omega⟩
theorem i64_not63 (n : Nat) (h : n ≤ 255) : bits .andNot .i64 (n : Int) 63 = ((n / 64 * 64 : Nat) : Int) := by
  have key : ∀ m : Fin 256, bits .andNot .i64 ((m.val : Nat) : Int) 63 = ((m.val / 64 * 64 : Nat) : Int) := by decide +kernel
  exact key ⟨n, by omega⟩
end Go.Proofs.Ytjoikidnnhjogaa

/- rtp: taking padding off. -/
namespace Go.Proofs.Ytjoikidnnhjogaa
open Go.RowKit
set_option linter.unusedVariables false
/-- The last byte. -/
def lastN (s : ByteArray) : Nat := ((by_ s)[s.size - 1]?.getD 0).toNat
/-- May so much padding be taken off? -/
def padOk (s : ByteArray) : Prop := s.size ≠ 0 ∧ lastN s ≠ 0 ∧ lastN s ≤ s.size ∧ s.extract (s.size - lastN s) s.size = ofL (padL (lastN s))
theorem ret_un {d : ByteArray} {p q : Int} (h : p = q) : Ending.returned (.tuple #[.string d, .int .i64 p, .int .i64 0]) = .returned (.tuple #[.string d, .int .i64 q, .int .i64 0]) := by rw [h]
end Go.Proofs.Ytjoikidnnhjogaa

/- rtp: Parse. -/
namespace Go.Proofs.Ytjoikidnnhjogaa
open Go.RowKit
set_option linter.unusedVariables false
/-- A header, and what is left behind it. -/
def hdrR (s : ByteArray) (first : Nat) : PK × (ByteArray × Int) :=
  let a1 := rd (s, 0) 1
  let a2 := rd a1 2
  let a3 := rd a2 4
  let a4 := rd a3 4
  let a5 := rds a4 (first % 16)
  let a6 := rd a5 2
  let a7 := rd a6 2
  let m : Int := 4 * (getN (by_ (rawT a6.1 2)) : Int)
  let p : PK := ⟨decide (getN (by_ (rawT s 1)) / 128 = 1), ((getN (by_ (rawT s 1)) % 128 : Nat) : Int), (getN (by_ (rawT a1.1 2)) : Int), (getN (by_ (rawT a2.1 4)) : Int), (getN (by_ (rawT a3.1 4)) : Int), osF a4 (first % 16), decide (first / 16 % 2 = 1),
    if first / 16 % 2 = 1 then (getN (by_ (rawT a5.1 2)) : Int) else 0, if first / 16 % 2 = 1 then rawT a7.1 m else { data := #[] }, { data := #[] }, 0⟩
  (p, if first / 16 % 2 = 1 then rd a7 m else a5)
/-- What Parse finds: an error, or a packet. -/
def parseR (s : ByteArray) : Sum Int PK :=
  if s.size < 12 then .inl 2 else
  if getN (by_ (rawT s 1)) / 64 ≠ 2 then .inl 1 else
  if (hdrR (rd (s, 0) 1).1 (getN (by_ (rawT s 1)))).2.2 ≠ 0 then .inl (hdrR (rd (s, 0) 1).1 (getN (by_ (rawT s 1)))).2.2 else
  if getN (by_ (rawT s 1)) / 32 % 2 = 1 then
    if (hdrR (rd (s, 0) 1).1 (getN (by_ (rawT s 1)))).2.1.size ≠ 0 ∧ lastN (hdrR (rd (s, 0) 1).1 (getN (by_ (rawT s 1)))).2.1 ≠ 0 ∧ lastN (hdrR (rd (s, 0) 1).1 (getN (by_ (rawT s 1)))).2.1 ≤ (hdrR (rd (s, 0) 1).1 (getN (by_ (rawT s 1)))).2.1.size ∧ by_ ((hdrR (rd (s, 0) 1).1 (getN (by_ (rawT s 1)))).2.1.extract ((hdrR (rd (s, 0) 1).1 (getN (by_ (rawT s 1)))).2.1.size - lastN (hdrR (rd (s, 0) 1).1 (getN (by_ (rawT s 1)))).2.1) (hdrR (rd (s, 0) 1).1 (getN (by_ (rawT s 1)))).2.1.size) = padL (lastN (hdrR (rd (s, 0) 1).1 (getN (by_ (rawT s 1)))).2.1) then
      .inr { (hdrR (rd (s, 0) 1).1 (getN (by_ (rawT s 1)))).1 with data := (hdrR (rd (s, 0) 1).1 (getN (by_ (rawT s 1)))).2.1.extract 0 ((hdrR (rd (s, 0) 1).1 (getN (by_ (rawT s 1)))).2.1.size - lastN (hdrR (rd (s, 0) 1).1 (getN (by_ (rawT s 1)))).2.1), pad := (lastN (hdrR (rd (s, 0) 1).1 (getN (by_ (rawT s 1)))).2.1 : Int) }
    else .inl 1
  else .inr { (hdrR (rd (s, 0) 1).1 (getN (by_ (rawT s 1)))).1 with data := (hdrR (rd (s, 0) 1).1 (getN (by_ (rawT s 1)))).2.1 }
/-- A zero packet. -/
def zeroA : Value := .agg #[.bool false, .int .i64 0, .int .u16 0, .int .u32 0, .int .u32 0, .slice none 0 0, .bool false, .int .i64 0, .string { data := #[] }, .string { data := #[] }, .int .i64 0]
/-- What Parse answers. -/
def Parsed (s : ByteArray) (w : World) (e : Ending) (w' : World) : Prop :=
  Below w.heap.size w w' ∧ ((∃ er : Int, e = .returned (.tuple #[zeroA, .int .i64 er]) ∧ parseR s = .inl er) ∨
    ∃ (p : PK) (a : Option Addr) (c : Nat), e = .returned (.tuple #[.agg (p.cells a c), .int .i64 0]) ∧ parseR s = .inr p ∧ w'.ownsRow w.heap.size 26 1 (.slice a p.others.length c) p.others.length (p.others.map (Value.int .u32)))
theorem padOk_iff (s : ByteArray) : padOk s ↔ (s.size ≠ 0 ∧ lastN s ≠ 0 ∧ lastN s ≤ s.size ∧ by_ (s.extract (s.size - lastN s) s.size) = padL (lastN s)) := by
  unfold padOk
  constructor
  · rintro ⟨h0, h1, h2, h3⟩; exact ⟨h0, h1, h2, by rw [h3, by_ofL]⟩
  · rintro ⟨h0, h1, h2, h3⟩; exact ⟨h0, h1, h2, by rw [← h3, ofL_by]⟩
theorem parseR1 (s : ByteArray) (h0 : ¬ s.size < 12) (h1 : getN (by_ (rawT s 1)) / 64 ≠ 2) : parseR s = .inl 1 := by unfold parseR; rw [if_neg h0, if_pos h1]
theorem parseR2 (s : ByteArray) (h0 : ¬ s.size < 12) (h1 : ¬ getN (by_ (rawT s 1)) / 64 ≠ 2) (h2 : (hdrR (rd (s, 0) 1).1 (getN (by_ (rawT s 1)))).2.2 ≠ 0) : parseR s = .inl (hdrR (rd (s, 0) 1).1 (getN (by_ (rawT s 1)))).2.2 := by unfold parseR; rw [if_neg h0, if_neg h1, if_pos h2]
theorem parseR3 (s : ByteArray) (h0 : ¬ s.size < 12) (h1 : ¬ getN (by_ (rawT s 1)) / 64 ≠ 2) (h2 : ¬ (hdrR (rd (s, 0) 1).1 (getN (by_ (rawT s 1)))).2.2 ≠ 0) (h3 : getN (by_ (rawT s 1)) / 32 % 2 = 1) (h4 : padOk (hdrR (rd (s, 0) 1).1 (getN (by_ (rawT s 1)))).2.1) :
    parseR s = .inr { (hdrR (rd (s, 0) 1).1 (getN (by_ (rawT s 1)))).1 with data := (hdrR (rd (s, 0) 1).1 (getN (by_ (rawT s 1)))).2.1.extract 0 ((hdrR (rd (s, 0) 1).1 (getN (by_ (rawT s 1)))).2.1.size - lastN (hdrR (rd (s, 0) 1).1 (getN (by_ (rawT s 1)))).2.1), pad := (lastN (hdrR (rd (s, 0) 1).1 (getN (by_ (rawT s 1)))).2.1 : Int) } := by
  unfold parseR; rw [if_neg h0, if_neg h1, if_neg h2, if_pos h3, if_pos ((padOk_iff _).1 h4)]
theorem parseR4 (s : ByteArray) (h0 : ¬ s.size < 12) (h1 : ¬ getN (by_ (rawT s 1)) / 64 ≠ 2) (h2 : ¬ (hdrR (rd (s, 0) 1).1 (getN (by_ (rawT s 1)))).2.2 ≠ 0) (h3 : getN (by_ (rawT s 1)) / 32 % 2 = 1) (h4 : ¬ padOk (hdrR (rd (s, 0) 1).1 (getN (by_ (rawT s 1)))).2.1) : parseR s = .inl 1 := by
  unfold parseR; rw [if_neg h0, if_neg h1, if_neg h2, if_pos h3, if_neg (fun h => h4 ((padOk_iff _).2 h))]
theorem parseR5 (s : ByteArray) (h0 : ¬ s.size < 12) (h1 : ¬ getN (by_ (rawT s 1)) / 64 ≠ 2) (h2 : ¬ (hdrR (rd (s, 0) 1).1 (getN (by_ (rawT s 1)))).2.2 ≠ 0) (h3 : ¬ getN (by_ (rawT s 1)) / 32 % 2 = 1) :
    parseR s = .inr { (hdrR (rd (s, 0) 1).1 (getN (by_ (rawT s 1)))).1 with data := (hdrR (rd (s, 0) 1).1 (getN (by_ (rawT s 1)))).2.1 } := by
  unfold parseR; rw [if_neg h0, if_neg h1, if_neg h2, if_neg h3]
theorem hdrR_le (s : ByteArray) (first : Nat) : (hdrR s first).2.1.size ≤ s.size := by
  have l1 : (rd (s, 0) 1).1.size ≤ s.size := rawS_le _ _ _
  have l2 : (rd (rd (s, 0) 1) 2).1.size ≤ s.size := Nat.le_trans (rawS_le _ _ _) l1
  have l3 : (rd (rd (rd (s, 0) 1) 2) 4).1.size ≤ s.size := Nat.le_trans (rawS_le _ _ _) l2
  have l4 : (rd (rd (rd (rd (s, 0) 1) 2) 4) 4).1.size ≤ s.size := Nat.le_trans (rawS_le _ _ _) l3
  have l5 : (rds (rd (rd (rd (rd (s, 0) 1) 2) 4) 4) (first % 16)).1.size ≤ s.size := Nat.le_trans (rds_le _ _) l4
  have l6 : (rd (rds (rd (rd (rd (rd (s, 0) 1) 2) 4) 4) (first % 16)) 2).1.size ≤ s.size := Nat.le_trans (rawS_le _ _ _) l5
  have l7 : (rd (rd (rds (rd (rd (rd (rd (s, 0) 1) 2) 4) 4) (first % 16)) 2) 2).1.size ≤ s.size := Nat.le_trans (rawS_le _ _ _) l6
  show (ite (first / 16 % 2 = 1) _ _ : ByteArray × Int).1.size ≤ _
  split
  · exact Nat.le_trans (rawS_le _ _ _) l7
  · exact l5
theorem rawT_whole (s : ByteArray) : rawT s (s.size : Int) = s := by
  have hN : rawN (s.size : Int) = s.size := by unfold rawN; omega
  unfold rawT
  rw [hN, if_neg (by omega)]
  simp
theorem own_base {w : World} {B B' : Nat} {e : TypeId} {v : Value} {n : Nat} {xs : List Value} (h : w.ownsRow B e 1 v n xs) (hB : B' ≤ B) : w.ownsRow B' e 1 v n xs := by
  refine ⟨h.1, ?_⟩
  rcases h.2 with h' | ⟨g, cap, cur, hv, hb, r⟩
  · exact .inl h'
  · exact .inr ⟨g, cap, cur, hv, by omega, r⟩
theorem own_later {w w' : World} {B : Nat} {e : TypeId} {v : Value} {n : Nat} {xs : List Value} (h : w.ownsRow B e 1 v n xs) (hb : Below w.heap.size w w') : w'.ownsRow B e 1 v n xs :=
  h.kept (row := none) ⟨hb.os, hb.tape, hb.output, hb.size, fun k hk _ => hb.block k hk⟩ (by cases hv : v.ownBlock <;> simp)
theorem parsedGood {s : ByteArray} {w w' : World} {e : Ending} (P : PK) (a : Option Addr) (c : Nat) (hb : Below w.heap.size w w') (he : e = .returned (.tuple #[.agg (P.cells a c), .int .i64 0])) (hr : Hid (parseR s = .inr P)) (hv : w'.ownsRow w.heap.size 26 1 (.slice a P.others.length c) P.others.length (P.others.map (Value.int .u32))) : Parsed s w e w' := ⟨hb, .inr ⟨P, a, c, he, hr.out, hv⟩⟩
theorem parsedBad {s : ByteArray} {w w' : World} {e : Ending} (er : Int) (hb : Below w.heap.size w w') (he : e = .returned (.tuple #[zeroA, .int .i64 er])) (hr : Hid (parseR s = .inl er)) : Parsed s w e w' := ⟨hb, .inl ⟨er, he, hr.out⟩⟩
end Go.Proofs.Ytjoikidnnhjogaa

/- rtp: the statements' awake; IsControl. -/
namespace Go.Proofs.Ytjoikidnnhjogaa
open Go.RowKit
set_option linter.unusedVariables false
def constB : ByteArray := { data := #[128, 96, 0, 1, 0, 0, 0, 0, 0, 0, 0, 0] }
def constP : PK := ⟨false, 96, 1, 0, 0, [], false, 0, { data := #[] }, { data := #[] }, 0⟩
theorem const_parse : parseR constB = .inr constP := by kernel_rfl
theorem const_pack : ofL (packL constP) = constB := by kernel_rfl
theorem const_may : mayOk constP := by decide
theorem const_ok : constP.ok := ⟨by decide, by decide, by decide, by intro x hx; cases hx⟩
namespace rtpControls
end rtpControls
end Go.Proofs.Ytjoikidnnhjogaa

/- piece.next. -/
namespace Go.Proofs.Ytjoikidnnhjogaa
open Go.RowKit
set_option linter.unusedVariables false
theorem getN_at (s : ByteArray) (i : Nat) (h : i < s.size) : getN (by_ (s.extract i (i + 1))) = fB s i := by
  have := fB_sl s i h
  unfold sl at this
  rw [this]
  have hb := fB_lt s i
  show 256 * 0 + (UInt8.ofNat (fB s i)).toNat = _
  rw [UInt8.toNat_ofNat_of_lt' (by omega)]
  omega
theorem pc_not31 (n : Nat) (h : n ≤ 255) : bits .andNot .i64 (n : Int) 31 = ((n / 32 * 32 : Nat) : Int) := by
  have key : ∀ m : Fin 256, bits .andNot .i64 ((m.val : Nat) : Int) 31 = ((m.val / 32 * 32 : Nat) : Int) := by decide +kernel
  exact key ⟨n, by omega⟩
theorem pc_and31 (n : Nat) (h : n ≤ 255) : bits .and .i64 (n : Int) 31 = ((n % 32 : Nat) : Int) := by
  have h2 := i64_mask (n : Int) 5 (by decide)
  simp only [show (2 ^ 5 - 1 : Nat) = 31 from rfl, show (2 ^ 5 : Nat) = 32 from rfl] at h2
  have h3 : bits .and .i64 (n : Int) 31 = (n : Int) % 32 := h2
  rw [h3]; omega
/-- What Fail leaves. -/
def flt (st : ByteArray × Int) (k : Int) : ByteArray × Int := (failS st.1 st.2 k, failE st.2 k)
def nxH (s : ByteArray) : ByteArray := rawT s 4
def nxF (s : ByteArray) : Nat := getN (by_ (rawT (nxH s) 1))
def nxK (s : ByteArray) : Nat := getN (by_ (rawT (rd (nxH s, 0) 1).1 1))
def nxN (s : ByteArray) : Nat := getN (by_ (rawT (rd (rd (nxH s, 0) 1) 1).1 2))
def nxA (s : ByteArray) : ByteArray × Int := if nxF s / 32 ≠ 4 then flt (rd (s, 0) 4) 1 else rd (s, 0) 4
def nxC (s : ByteArray) : Bool := decide (1 < (nxH s).size ∧ fB (nxH s) 1 / 32 = 6)
def nxB (s : ByteArray) : ByteArray × Int := if nxC s then nxA s else flt (nxA s) 5
def nxP (s : ByteArray) : PC := ⟨(nxF s % 32 : Nat), (nxK s : Nat), rawT (nxB s).1 (4 * (nxN s : Nat))⟩
def nxZ (s : ByteArray) : ByteArray × Int := rd (nxB s) (4 * (nxN s : Nat))
theorem ext_all (s : ByteArray) : s.extract 0 s.size = s := by apply by_inj; rw [by_extract _ _ _ (Nat.le_refl _), take_all, List.drop_zero]
theorem stA_zero (s : ByteArray) : (s, (0 : Int)) = stA s 0 := by unfold stA; rw [ext_all]
theorem flt_dead (k : Int) : flt dead k = dead := by
  unfold flt dead failS failE
  rw [if_neg (by simp), if_neg (by simp)]
theorem flt_st (s : ByteArray) (a : Nat) (k : Int) (h : k ≠ 0) : flt (stA s a) k = ({ data := #[] }, k) := by
  unfold flt stA failS failE
  rw [if_pos ⟨rfl, h⟩, if_pos ⟨rfl, h⟩]
theorem flt_err (e k : Int) (h : e ≠ 0) : flt (({ data := #[] } : ByteArray), e) k = ({ data := #[] }, e) := by
  unfold flt failS failE
  rw [if_neg (fun x => h x.1), if_neg (fun x => h x.1)]
theorem rd_err (e m : Int) (h : e ≠ 0) : rd (({ data := #[] } : ByteArray), e) m = ({ data := #[] }, e) := by
  obtain ⟨_, h2, h3⟩ := raw_none e m h
  unfold rd
  rw [h2, h3]
theorem nx_short (s : ByteArray) (h : s.size < 4) : nxF s = 0 ∧ nxC s = false ∧ rd (s, 0) 4 = dead ∧ nxN s = 0 := by
  have h1 : nxH s = { data := #[] } := by unfold nxH rawT; rw [if_pos (by rw [show rawN 4 = 4 from rfl]; exact h)]
  have h2 : ∀ e, rd (({ data := #[] } : ByteArray), 0) 1 = e → e = dead := fun e he => by rw [← he]; rfl
  refine ⟨?_, ?_, ?_, ?_⟩
  · unfold nxF; rw [h1]; rfl
  · unfold nxC; rw [h1]; exact decide_eq_false (fun x => by have := x.1; exact absurd this (by decide))
  · have := rd_st s 0 4 (Nat.zero_le _)
    rw [if_pos (by omega), ← stA_zero] at this
    exact this
  · unfold nxN; rw [h1, h2 _ rfl, rd_dead]; rfl
theorem nx_long (s : ByteArray) (h : 4 ≤ s.size) : nxF s = fB s 0 ∧ nxK s = fB s 1 ∧ nxN s = gN s 2 4 ∧ (nxC s = true ↔ fB s 1 / 32 = 6) ∧ rd (s, 0) 4 = stA s 4 := by
  have h1 : nxH s = s.extract 0 4 := by
    have := rawT_st s 0 4 (by omega)
    rw [ext_all] at this
    exact this
  have hz : (s.extract 0 4).size = 4 := by rw [ByteArray.size_extract]; omega
  have hsub : ∀ a b, b ≤ 4 → (s.extract 0 4).extract a b = s.extract a b := fun a b hb => by
    apply by_inj
    rw [by_extract _ _ _ (by omega), by_extract _ _ _ (by omega), by_extract _ _ _ (by omega), List.drop_zero, List.take_take, Nat.min_eq_left hb]
  have hq : ∀ i, i < 4 → fB (s.extract 0 4) i = fB s i := fun i hi => by rw [← getN_at _ i (by omega), ← getN_at s i (by omega), hsub _ _ (by omega)]
  have t0 : ∀ a m : Nat, a + m ≤ 4 → rawT (stA (s.extract 0 4) a).1 (m : Nat) = s.extract a (a + m) := fun a m ham => by
    have := rawT_st (s.extract 0 4) a m (by omega)
    rw [hsub _ _ ham] at this
    exact this
  have r0 : ∀ a m : Nat, a + m ≤ 4 → rd (stA (s.extract 0 4) a) (m : Nat) = stA (s.extract 0 4) (a + m) := fun a m ham => by
    rw [rd_st _ _ _ (by omega), if_neg (by omega)]
  refine ⟨?_, ?_, ?_, ?_, ?_⟩
  · unfold nxF
    have := t0 0 1 (by omega)
    rw [← stA_zero] at this
    rw [h1]
    rw [show rawT (s.extract 0 4) 1 = s.extract 0 (0 + 1) from this, getN_at s 0 (by omega)]
  · unfold nxK
    rw [h1, stA_zero, show rd (stA (s.extract 0 4) 0) 1 = stA (s.extract 0 4) (0 + 1) from r0 0 1 (by omega), show rawT (stA (s.extract 0 4) (0 + 1)).1 1 = s.extract 1 (1 + 1) from t0 1 1 (by omega), getN_at s 1 (by omega)]
  · unfold nxN
    rw [h1, stA_zero, show rd (stA (s.extract 0 4) 0) 1 = stA (s.extract 0 4) (0 + 1) from r0 0 1 (by omega), show rd (stA (s.extract 0 4) (0 + 1)) 1 = stA (s.extract 0 4) (1 + 1) from r0 1 1 (by omega), show rawT (stA (s.extract 0 4) (1 + 1)).1 2 = s.extract 2 (2 + 2) from t0 2 2 (by omega)]
    rfl
  · unfold nxC
    rw [h1, decide_eq_true_iff, hz, hq 1 (by omega)]
    exact ⟨fun x => x.2, fun x => ⟨by decide, x⟩⟩
  · have := rd_st s 0 4 (Nat.zero_le _)
    rw [if_neg (by omega), ← stA_zero] at this
    exact this
/-- What next leaves and finds. -/
theorem nx_ok (s : ByteArray) : (pcE s = 0 ∧ nxP s = pcF s ∧ (nxZ s).1 = pcR s ∧ (nxZ s).2 = 0) ∨ (pcE s ≠ 0 ∧ (nxZ s).1.size = 0 ∧ (nxZ s).2 = pcE s) := by
  by_cases h : s.size < 4
  · obtain ⟨h1, h2, h3, h4⟩ := nx_short s h
    have e0 : pcE s = 2 := by unfold pcE; rw [if_pos h]
    have e1 : nxZ s = dead := by
      unfold nxZ nxB nxA
      rw [h1, h2, h3, if_neg (by decide), if_pos (by decide), flt_dead, flt_dead, rd_dead]
    right
    rw [e0, e1]
    exact ⟨by decide, rfl, rfl⟩
  · obtain ⟨h1, h2, h3, h4, h5⟩ := nx_long s (by omega)
    by_cases k1 : fB s 0 / 32 ≠ 4
    · have e0 : pcE s = 1 := by unfold pcE; rw [if_neg h, if_pos k1]
      have e1 : nxA s = ({ data := #[] }, 1) := by unfold nxA; rw [h1, if_pos k1, h5, flt_st _ _ _ (by decide)]
      have e2 : nxB s = ({ data := #[] }, 1) := by
        unfold nxB
        rw [e1, flt_err _ _ (by decide)]
        split <;> rfl
      right
      unfold nxZ
      rw [e0, e2, rd_err _ _ (by decide)]
      exact ⟨by decide, rfl, rfl⟩
    · have e1 : nxA s = stA s 4 := by unfold nxA; rw [h1, if_neg k1, h5]
      have hb := fB_lt s 1
      by_cases k2 : fB s 1 < 192 ∨ 223 < fB s 1
      · have e0 : pcE s = 5 := by unfold pcE; rw [if_neg h, if_neg k1, if_pos k2]
        have e2 : nxB s = ({ data := #[] }, 5) := by
          unfold nxB
          rw [e1, if_neg (fun x => by have := h4.1 x; omega), flt_st _ _ _ (by decide)]
        right
        unfold nxZ
        rw [e0, e2, rd_err _ _ (by decide)]
        exact ⟨by decide, rfl, rfl⟩
      · have e2 : nxB s = stA s 4 := by
          unfold nxB
          rw [e1, if_pos (h4.2 (by omega))]
        have hr := rd_st s 4 (4 * gN s 2 4) (by omega)
        have hc : (4 * ((gN s 2 4 : Nat) : Int)) = ((4 * gN s 2 4 : Nat) : Int) := by omega
        by_cases k3 : s.size < 4 + 4 * gN s 2 4
        · have e0 : pcE s = 2 := by unfold pcE; rw [if_neg h, if_neg k1, if_neg k2, if_pos k3]
          right
          unfold nxZ
          rw [if_pos k3] at hr
          rw [e0, e2, h3, hc, hr]
          exact ⟨by decide, rfl, rfl⟩
        · have e0 : pcE s = 0 := by unfold pcE; rw [if_neg h, if_neg k1, if_neg k2, if_neg k3]
          left
          rw [if_neg k3] at hr
          refine ⟨e0, ?_, ?_, ?_⟩
          · unfold nxP pcF
            have ht := rawT_st s 4 (4 * gN s 2 4) (by omega)
            rw [h1, h2, h3, e2, hc]
            rw [show rawT (stA s 4).1 ((4 * gN s 2 4 : Nat) : Int) = s.extract 4 (4 + 4 * gN s 2 4) from ht]
          · unfold nxZ; rw [e2, h3, hc, hr]; rfl
          · unfold nxZ; rw [e2, h3, hc, hr]; rfl
end Go.Proofs.Ytjoikidnnhjogaa

/- piece.next, walked. -/
namespace Go.Proofs.Ytjoikidnnhjogaa
open Go.RowKit
set_option linter.unusedVariables false
/-- Of what was there nothing but block b has turned. -/
structure Ex (b : Nat) (w w' : World) : Prop where
  os : w'.os = w.os
  tape : w'.tape = w.tape
  output : w'.output = w.output
  size : w.heap.size ≤ w'.heap.size
  block : ∀ k, k < w.heap.size → k ≠ b → w'.heap[k]? = w.heap[k]?
theorem Ex.refl (b : Nat) (w : World) : Ex b w w := ⟨rfl, rfl, rfl, Nat.le_refl _, fun _ _ _ => rfl⟩
theorem Ex.trans {b : Nat} {w w' w'' : World} (h : Ex b w w') (k : Ex b w' w'') : Ex b w w'' :=
  ⟨k.os.trans h.os, k.tape.trans h.tape, k.output.trans h.output, Nat.le_trans h.size k.size, fun i hi hb => (k.block i (Nat.lt_of_lt_of_le hi h.size) hb).trans (h.block i hi hb)⟩
theorem Only.ex {b : Nat} {w w' : World} (h : Only b w w') : Ex b w w' := ⟨h.os, h.tape, h.output, by rw [h.size]; exact Nat.le_refl _, fun k _ hk => h.block k hk⟩
theorem Below.ex {b : Nat} {w w' : World} (h : Below w.heap.size w w') : Ex b w w' := ⟨h.os, h.tape, h.output, h.size, fun k hk _ => h.block k hk⟩
/-- What is turned is new. -/
theorem Only.exNew {b n : Nat} {w0 w w' : World} (h : Ex b w0 w) (hn : w0.heap.size ≤ n) (ho : Only n w w') : Ex b w0 w' :=
  ⟨ho.os.trans h.os, ho.tape.trans h.tape, ho.output.trans h.output, by rw [ho.size]; exact h.size, fun k hk hb => (ho.block k (by omega)).trans (h.block k hk hb)⟩
theorem Ex.setNew {b n i : Nat} {u : Value} {w0 w : World} (h : Ex b w0 w) (hn : w0.heap.size ≤ n) : Ex b w0 (w.setCell ⟨n, i, none⟩ u) := Only.exNew h hn ((Only.refl n w).setCell i u)
theorem Ex.alloc {b : Nat} {w0 w : World} (h : Ex b w0 w) (o : Obj) : Ex b w0 (w.alloc o) := h.trans (Below.ex ((Below.refl _ _).alloc (Nat.le_refl _) o))
theorem Ex.below {b B : Nat} {w w' : World} (h : Ex b w w') (hB : B ≤ b) (hs : B ≤ w.heap.size) : Below B w w' := ⟨h.os, h.tape, h.output, h.size, fun k hk => h.block k (by omega) (by omega)⟩
theorem InAt.only {w w' : World} {b n : Nat} {s : ByteArray} {er : Int} (h : InAt w b s er) (hne : b ≠ n) (ho : Only n w w') : InAt w' b s er := by unfold InAt; rw [ho.block b hne]; exact h
theorem own_ex {w w' : World} {B b m : Nat} {e : TypeId} {v : Value} {n : Nat} {xs : List Value} (h : w.ownsRow B e m v n xs) (hx : Ex b w w') (hb : some b ≠ v.ownBlock) : w'.ownsRow B e m v n xs :=
  h.kept (row := some b) ⟨hx.os, hx.tape, hx.output, hx.size, fun k hk hne => hx.block k hk (fun e => hne (by rw [e]))⟩ (.inr (fun e => hb e.symm))
theorem rawT_le (s : ByteArray) (n : Nat) : (rawT s (n : Nat)).size ≤ n := by
  have := (rawT_size s (n : Nat)).1
  rw [rawN_nat] at this
  exact this
theorem getN_raw (s : ByteArray) (n : Nat) : getN (by_ (rawT s (n : Nat))) < 256 ^ n := by
  have h1 : (by_ (rawT s (n : Nat))).length ≤ n := by rw [by_len]; exact rawT_le s n
  exact Nat.lt_of_lt_of_le (getN_lt _) (Nat.pow_le_pow_right (by decide) h1)
theorem nxH_le (s : ByteArray) : (nxH s).size ≤ 4 := rawT_le s 4
theorem nxF_le (s : ByteArray) : nxF s ≤ 255 := Nat.le_of_lt_succ (getN_raw (nxH s) 1)
theorem nxN_le (s : ByteArray) : nxN s ≤ 65535 := Nat.le_of_lt_succ (getN_raw (rd (rd (nxH s, 0) 1) 1).1 2)
theorem flt_le (st : ByteArray × Int) (k : Int) : (flt st k).1.size ≤ st.1.size := by
  unfold flt failS
  split
  · exact Nat.zero_le _
  · exact Nat.le_refl _
theorem nxA_le (s : ByteArray) : (nxA s).1.size ≤ s.size := by
  have l0 : (rd (s, 0) 4).1.size ≤ s.size := rawS_le _ _ _
  unfold nxA
  split
  · exact Nat.le_trans (flt_le _ _) l0
  · exact l0
theorem nxB_le (s : ByteArray) : (nxB s).1.size ≤ s.size := by
  unfold nxB
  split
  · exact nxA_le s
  · exact Nat.le_trans (flt_le _ _) (nxA_le s)
theorem raw_st (b : Nat) (st : ByteArray × Int) (n : Int) (W : World) (h : InAt W b st.1 st.2) (hs : st.1.size ≤ 9223372036854775807) : Calls Try.prog 107 #[.pointer (some ⟨b, 0, none⟩), .int .i64 n] W (Took b (.string (rawT st.1 n)) (rd st n).1 (rd st n).2 W) := inRaw_any b st.1 st.2 n W h hs
theorem u8_st (b : Nat) (st : ByteArray × Int) (W : World) (h : InAt W b st.1 st.2) (hs : st.1.size ≤ 9223372036854775807) : Calls Try.prog 108 #[.pointer (some ⟨b, 0, none⟩)] W (Took b (.int .i64 (getN (by_ (rawT st.1 1)) : Int)) (rd st 1).1 (rd st 1).2 W) := inU8_any b st.1 st.2 W h hs
theorem u16_st (b : Nat) (st : ByteArray × Int) (W : World) (h : InAt W b st.1 st.2) (hs : st.1.size ≤ 9223372036854775807) : Calls Try.prog 96 #[.pointer (some ⟨b, 0, none⟩)] W (Took b (.int .i64 (getN (by_ (rawT st.1 2)) : Int)) (rd st 2).1 (rd st 2).2 W) := inU16_any b st.1 st.2 W h hs
theorem fail_st (b : Nat) (st : ByteArray × Int) (k : Int) (W : World) (h : InAt W b st.1 st.2) : Calls Try.prog 125 #[.pointer (some ⟨b, 0, none⟩), .int .i64 k] W (Took b (.tuple #[]) (flt st k).1 (flt st k).2 W) := fail_any b st.1 st.2 k W h
theorem nxP_body (s : ByteArray) : (nxP s).body = rawT (nxB s).1 (4 * (nxN s : Nat)) := by simp only [nxP]
theorem nxZ_rd (s : ByteArray) : nxZ s = rd (nxB s) (4 * (nxN s : Nat)) := by rw [nxZ]
theorem nxH_eq (s : ByteArray) : nxH s = rawT s 4 := by rw [nxH]
theorem nxF_eq (s : ByteArray) : nxF s = getN (by_ (rawT (nxH s) 1)) := by rw [nxF]
theorem nxK_eq (s : ByteArray) : nxK s = getN (by_ (rawT (rd (nxH s, 0) 1).1 1)) := by rw [nxK]
theorem nxN_eq (s : ByteArray) : nxN s = getN (by_ (rawT (rd (rd (nxH s, 0) 1) 1).1 2)) := by rw [nxN]
theorem nxA_eq (s : ByteArray) : nxA s = if nxF s / 32 ≠ 4 then flt (rd (s, 0) 4) 1 else rd (s, 0) 4 := by rw [nxA]
theorem nxB_eq (s : ByteArray) : nxB s = if nxC s then nxA s else flt (nxA s) 5 := by rw [nxB]
/-- What next leaves. -/
def Nexted (b : Nat) (s : ByteArray) (w : World) (e : Ending) (w' : World) : Prop :=
  e = .returned (.agg #[.int .i64 (nxP s).count, .int .i64 (nxP s).kind, .string (nxP s).body]) ∧ InAt w' b (nxZ s).1 (nxZ s).2 ∧ Ex b w w'
end Go.Proofs.Ytjoikidnnhjogaa

/- piece.Pack. -/
namespace Go.Proofs.Ytjoikidnnhjogaa
open Go.RowKit
set_option linter.unusedVariables false
def allMay (l : List PC) : Prop := ∀ p ∈ l, pcMay p
instance allMay_dec (l : List PC) : Decidable (allMay l) := by unfold allMay; infer_instance
/-- The bytes of pieces; none if one may not be. -/
def pcsS (l : List PC) : ByteArray := if allMay l then ofL (pcsL l) else { data := #[] }
theorem pc_mem (l : List PC) (k : Nat) (h : k < l.length) : l[k]?.getD zeroPC ∈ l := by
  rw [List.getElem?_eq_getElem h]
  exact List.getElem_mem h
theorem take_may (l : List PC) (k : Nat) (h : k < l.length) (h1 : allMay (l.take k)) (h2 : pcMay (l[k]?.getD zeroPC)) : allMay (l.take (k + 1)) := by
  intro p hp
  rw [List.take_succ_eq_append_getElem h] at hp
  rcases List.mem_append.1 hp with hp | hp
  · exact h1 p hp
  · rw [List.mem_singleton] at hp
    rw [List.getElem?_eq_getElem h] at h2
    subst hp; exact h2
theorem pcsS_bad (l : List PC) (p : PC) (hp : p ∈ l) (h : ¬ pcMay p) : pcsS l = { data := #[] } := by
  unfold pcsS
  rw [if_neg (fun ha => h (ha p hp))]
theorem pcsS_good (l : List PC) (h : allMay l) : pcsS l = ofL (pcsL l) := by unfold pcsS; rw [if_pos h]
theorem pcsL_take_len (l : List PC) (k n : Nat) (h : ∀ p ∈ l, p.body.size ≤ n) : (pcsL (l.take k)).length ≤ l.length * (4 + n) := by
  have h1 := pcsL_len_le (l.take k) n (fun p hp => h p (List.mem_of_mem_take hp))
  have h2 : (l.take k).length ≤ l.length := by rw [List.length_take]; omega
  exact Nat.le_trans h1 (Nat.mul_le_mul_right _ h2)
/-- A piece in memory. -/
def PcAt (W : World) (g : Nat) (p : PC) : Prop := W.heap[g]? = some (.cells #[.int .i64 p.count, .int .i64 p.kind, .string p.body] 33 (0, 0))
theorem PcAt.drew {W : World} {g : Nat} {p : PC} (h : PcAt W g p) : PcAt W.drew g p := h
theorem PcAt.alloc {W : World} {g : Nat} {p : PC} (h : PcAt W g p) (o : Obj) : PcAt (W.alloc o) g p := heap_at_old _ _ _ _ h
theorem PcAt.others {W w' : World} {g b : Nat} {p : PC} (h : PcAt W g p) (hg : g ≠ b) (ho : Others b W w') : PcAt w' g p := ho g _ h hg (by intro cur p e; cases e)
theorem PcAt.later {W w' : World} {g : Nat} {p : PC} (h : PcAt W g p) (hb : Below W.heap.size W w') : PcAt w' g p := by unfold PcAt; rw [hb.block g (lt_of_block h)]; exact h
theorem PcAt.lt {W : World} {g : Nat} {p : PC} (h : PcAt W g p) : g < W.heap.size := lt_of_block h
theorem pcAt_S {W : World} {g : Nat} {p : PC} (h : PcAt W g p) : W.cell? ⟨g, 0, none⟩ = some (.int .i64 p.count) ∧ W.cell? ⟨g, 1, none⟩ = some (.int .i64 p.kind) ∧ W.cell? ⟨g, 2, none⟩ = some (.string p.body) ∧ PcAt W g p := by
  have f := fun i => cell_of_row W g i _ _ (0, 0) h
  exact ⟨by simpa using f 0, by simpa using f 1, by simpa using f 2, h⟩
theorem pc_new (W : World) (p : PC) : PcAt (W.alloc (.cells #[.int .i64 p.count, .int .i64 p.kind, .string p.body] 33)) W.heap.size p := heap_alloc_new _ _
end Go.Proofs.Ytjoikidnnhjogaa

/- piece.Split; the document's; the statements' Is. -/
namespace Go.Proofs.Ytjoikidnnhjogaa
open Go.RowKit
set_option linter.unusedVariables false
/-- 'append' of one struct to a row of the call's own. -/
theorem append_rec {P : Program} {w W : World} {ops : Array Oper} {rest : List Oper} {o : Oper} {a : Act} {Q : Exit → Act → World → Prop} (hgd : o.guard = none) (s x : Operand) (t : TypeId)
    (ho : o.op = .call { callee := .builtin .append, args := #[s, x], argTypes := #[t, t] })
    (base : Nat) (e : TypeId) (i : TypeInfo) (z : Value) (size bytes : Nat) (ht : P.underlying t = some (.slice e)) (hi : P.info? e = some i) (hz : i.zero = some z)
    (hsize : i.size = size) (hby : i.bytes = bytes) (hzs : z.cells.size = size) (h0 : 0 < size)
    (v : Value) (n : Nat) (xs : List Value) (hs : a.eval s = v) (hown : w.ownsRow base e size v n xs)
    (cs : Array Value) (hcs : cs.size = size) (hx : a.eval x = .slice (some ⟨w.heap.size, 0, none⟩) 1 1) (h1 : ∀ u ∈ cs.toList, u.oneCell' = true)
    (h63 : n + 1 ≤ maxLen) (hbytes : (n + 1) * bytes ≤ 140737488355328) (B : Nat) (hB : B ≤ base) (hbase : base ≤ w.heap.size) (hbel : Below B W w)
    (h : ∀ v' w', w'.ownsRow base e size v' (n + 1) (xs ++ cs.toList) → Below B W w' → (w.alloc (.cells cs e)).grownBy w' v.ownBlock → wpList P ops Q rest (a.put o.dst v') w') :
    wpList P ops Q (o :: rest) a (w.alloc (.cells cs e)) := by
  refine wpList_append_own _ hgd s x t ho base e i z size bytes ht hi hz hsize hby hzs h0 v n xs hs (hown.alloc _) ⟨w.heap.size, 0, none⟩ 1 1 cs.toList hx (by simp [hcs]) ?_ h1 h63 hbytes ?_ ?_
  · intro j u hj
    rw [addr_add, cell_of_row _ w.heap.size j cs e (0, 0) (heap_alloc_new w _), ← Array.getElem?_toList]
    exact hj
  · simp; omega
  · intro v' w' hown' hgrow _
    refine h v' w' hown' ?_ hgrow
    refine (hbel.alloc (by omega) _).grown hgrow (by simp; omega) ?_
    intro k hk
    exact Nat.le_trans hB (hown.lt k hk).1
def finL (s : ByteArray) : List PC := if (split s).1 = 0 then (split s).2 else []
/-- What Split leaves. -/
def Splitted (s : ByteArray) (w : World) (e : Ending) (w' : World) : Prop :=
  Below w.heap.size w w' ∧ ∃ a c, e = .returned (.tuple #[.slice a (finL s).length c, .int .i64 (split s).1]) ∧ ReadsP w' a (finL s)
def sliceLen : Value → Nat
  | .slice _ n _ => n
  | _ => 0
def textLen : Value → Nat
  | .string s => s.size
  | _ => 0
theorem row_neP {w : World} {B : Nat} {e : TypeId} {m : Nat} {v : Value} {n : Nat} {xs : List Value} (h : w.ownsRow B e m v n xs) {k : Nat} {o : Obj} (hk : w.heap[k]? = some o) (hn : ∀ cur p, o ≠ .cells cur e p) : some k ≠ v.ownBlock := by
  intro he
  rcases h.2 with ⟨rfl, _⟩ | ⟨g, cap, cur, rfl, _, hg, _⟩
  · cases he
  · simp only [Value.ownBlock, Option.some.injEq] at he
    subst he
    rw [hg] at hk
    exact hn _ _ (Option.some.inj hk).symm
theorem ret_split {a : Option Addr} {c n n' : Nat} {er er' : Int} (h1 : n = n') (h2 : er = er') : Ending.returned (.tuple #[.slice a n c, .int .i64 er]) = .returned (.tuple #[.slice a n' c, .int .i64 er']) := by rw [h1, h2]
/-- Where Split stands: s1 is left of s, l are the pieces ahead of it; er the first error. -/
def SpR (s s1 : ByteArray) (l : List PC) (er : Int) : Prop :=
  (er = 0 ∧ split s = ((split s1).1, l ++ (split s1).2)) ∨ (er ≠ 0 ∧ s1.size = 0 ∧ (split s).1 = er)
theorem spR_start (s : ByteArray) : SpR s s [] 0 := .inl ⟨rfl, by rw [List.nil_append]⟩
theorem pcR_lt (s : ByteArray) (h : pcE s = 0) : (pcR s).size < s.size := by
  have h1 := (pcE_zero s h).1
  rw [pcR_size]
  clear h
  omega
theorem spR_step (s s1 : ByteArray) (l : List PC) (er : Int) (h : SpR s s1 l er) (h0 : s1.size ≠ 0) : SpR s (nxZ s1).1 (l ++ [nxP s1]) (nxZ s1).2 ∧ er = 0 ∧ (nxZ s1).1.size < s1.size := by
  rcases h with ⟨h1, h2⟩ | ⟨_, h2, _⟩
  · rcases nx_ok s1 with ⟨e1, e2, e3, e4⟩ | ⟨e1, e2, e3⟩
    · rw [e2, e3, e4]
      refine ⟨.inl ⟨rfl, ?_⟩, h1, pcR_lt s1 e1⟩
      rw [h2, split_good1 s1 h0 e1, split_good2 s1 h0 e1, List.append_assoc, List.singleton_append]
    · rw [e3]
      refine ⟨.inr ⟨e1, e2, ?_⟩, h1, by rw [e2]; exact Nat.pos_of_ne_zero h0⟩
      rw [h2, split_bad s1 h0 e1]
  · exact absurd h2 h0
theorem spR_end (s s1 : ByteArray) (l : List PC) (er : Int) (h : SpR s s1 l er) (h0 : s1.size = 0) : (split s).1 = er ∧ (er = 0 → finL s = l) ∧ (er ≠ 0 → finL s = []) := by
  rcases h with ⟨h1, h2⟩ | ⟨h1, _, h3⟩
  · have e : split s = (0, l) := by rw [h2, split_nil s1 h0, List.append_nil]
    refine ⟨by rw [e, h1], fun _ => ?_, fun h => absurd h1 h⟩
    unfold finL; rw [e, if_pos rfl]
  · refine ⟨h3, fun h => absurd h h1, fun _ => ?_⟩
    unfold finL; rw [h3, if_neg h1]
theorem nxP_vals (s : ByteArray) : (nxP s).vals = [.int .i64 (nxP s).count, .int .i64 (nxP s).kind, .string (nxP s).body] := rfl
end Go.Proofs.Ytjoikidnnhjogaa

/- The document's Split; the statements' Is. -/
namespace Go.Proofs.Ytjoikidnnhjogaa
open Go.RowKit
set_option linter.unusedVariables false
theorem spl_err (s s1 : ByteArray) (l : List PC) (h : split s = ((split s1).1, l ++ (split s1).2)) (h0 : s1.size ≠ 0) (k : Int) (hk : pcE s1 = k) (hk0 : k ≠ 0) : (split s).1 = k ∧ finL s = [] := by
  have e : (split s).1 = k := by rw [h, split_bad s1 h0 (by rw [hk]; exact hk0), hk]
  refine ⟨e, ?_⟩
  unfold finL
  rw [e, if_neg hk0]
theorem spl_step (s s1 : ByteArray) (l : List PC) (h : split s = ((split s1).1, l ++ (split s1).2)) (h0 : s1.size ≠ 0) (hk : pcE s1 = 0) : split s = ((split (pcR s1)).1, (l ++ [pcF s1]) ++ (split (pcR s1)).2) := by
  rw [h, split_good1 s1 h0 hk, split_good2 s1 h0 hk, List.append_assoc, List.singleton_append]
theorem spl_end (s s1 : ByteArray) (l : List PC) (h : split s = ((split s1).1, l ++ (split s1).2)) (h0 : s1.size = 0) : (split s).1 = 0 ∧ finL s = l := by
  have e : split s = (0, l) := by rw [h, split_nil s1 h0, List.append_nil]
  refine ⟨by rw [e], ?_⟩
  unfold finL; rw [e, if_pos rfl]
theorem pcE_2 (s : ByteArray) (h : s.size < 4) : pcE s = 2 := by unfold pcE; rw [if_pos h]
theorem pcE_1 (s : ByteArray) (h : ¬ s.size < 4) (h1 : fB s 0 / 32 ≠ 4) : pcE s = 1 := by unfold pcE; rw [if_neg h, if_pos h1]
theorem pcE_5 (s : ByteArray) (h : ¬ s.size < 4) (h1 : fB s 0 / 32 = 4) (h2 : fB s 1 < 192 ∨ 223 < fB s 1) : pcE s = 5 := by unfold pcE; rw [if_neg h, if_neg (fun x => x h1), if_pos h2]
theorem pcE_2b (s : ByteArray) (h : ¬ s.size < 4) (h1 : fB s 0 / 32 = 4) (h2 : ¬ (fB s 1 < 192 ∨ 223 < fB s 1)) (h3 : s.size < 4 + 4 * gN s 2 4) : pcE s = 2 := by unfold pcE; rw [if_neg h, if_neg (fun x => x h1), if_neg h2, if_pos h3]
theorem pcE_0 (s : ByteArray) (h : ¬ s.size < 4) (h1 : fB s 0 / 32 = 4) (h2 : ¬ (fB s 1 < 192 ∨ 223 < fB s 1)) (h3 : ¬ s.size < 4 + 4 * gN s 2 4) : pcE s = 0 := by unfold pcE; rw [if_neg h, if_neg (fun x => x h1), if_neg h2, if_neg h3]
theorem get24 (s : ByteArray) (w : World) : Calls Try.prog 58 #[.string (s.extract 2 4)] w fun e w' => e = .returned (.int .i64 (gN s 2 4 : Nat)) ∧ w = w' := get_any (s.extract 2 4) w (by rw [ByteArray.size_extract]; omega)
end Go.Proofs.Ytjoikidnnhjogaa
