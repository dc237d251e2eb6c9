/- rtp: padding, the header's bytes, Pack. -/
import Derived.Test.YtagimjaojpdfiaaRtpC
import Derived.Test.YtagimjaojpdfiaaShelf
import Derived.Deep.RegionHeld3
namespace Go.Proofs.Ytagimjaojpdfiaa
open Go.RowKit
set_option linter.unusedVariables false
theorem repeatL_zero : ∀ n : Nat, Lib.repeatL [(0 : UInt8)] n = List.replicate n 0
  | 0 => rfl
  | n + 1 => by rw [Lib.repeatL, repeatL_zero n]; rfl
theorem repeat_at (S : Int) (c : Nat) (w : World) (hS : S = (c : Int)) (hc : c ≤ 1000) :
    Calls Try.prog 112 #[.string { data := #[0] }, .int .i64 S] w fun e w' => e = .returned (.string (ofL (List.replicate c 0))) ∧ Below w.heap.size w w' := by
  have hz : (ByteArray.mk #[0]).size = 1 := rfl
  have h := Try.strings_Repeat { data := #[0] } c w (by omega) (by rw [hz]; omega)
  have e : Lib.repeatL (ByteArray.mk #[0]).data.toList c = List.replicate c 0 := repeatL_zero c
  rw [e] at h
  rw [hS]
  exact h
/-- The last bytes of a packet that is padded. -/
def padL (n : Nat) : List UInt8 := List.replicate (n - 1) 0 ++ [UInt8.ofNat n]
theorem conv_byte (x : Int) (W : World) (g : Nat) (h : W.cell? ⟨g, 0, none⟩ = some (.int .u8 x)) : Sem.run Try.prog (convert 135 9 (.slice (some ⟨g, 0, none⟩) 1 1)) W = Result.ok (.string (strOfNums [x])) W := by
  refine run_convert_bytes_arg (P := Try.prog) _ 135 5 Try.underlying135 Try.underlying5 g 0 1 1 [x] rfl (fun i hi => ?_) 9 Try.underlying9
  match i, hi with
  | 0, _ => exact h
/-- The bytes of a header of a packet that is padded, or isn't. -/
def hdrL (p : PK) (pd : Bool) : List UInt8 :=
  be (128 + p.others.length + (if pd then 32 else 0) + (if p.hx then 16 else 0)) 1 ++ be (p.kind + (if p.mrk then 128 else 0)) 1 ++ be p.seq 2 ++ be p.time 4 ++ be p.source 4 ++ bes p.others 4 ++
  (if p.hx then be p.prof 2 ++ be ((p.ext.size / 4 : Nat) : Int) 2 ++ by_ p.ext else [])
/-- The bytes of a packet. -/
def packL (p : PK) : List UInt8 := hdrL p (decide (0 < p.pad)) ++ by_ p.data ++ (if 0 < p.pad then padL p.pad.toNat else [])
/-- The packet's numbers are of their kinds. -/
def PK.ok (p : PK) : Prop := (0 ≤ p.seq ∧ p.seq ≤ 65535) ∧ (0 ≤ p.time ∧ p.time ≤ 4294967295) ∧ (0 ≤ p.source ∧ p.source ≤ 4294967295) ∧ ∀ x ∈ p.others, 0 ≤ x ∧ x ≤ 4294967295
theorem u8_g (B b : Nat) (v : Value) (L : List UInt8) (zs : List Int) (cs : Array Value) (n g : Nat) (W0 W : World) (hO : OutAt W0 B b v L) (hb : Below W0.heap.size W0 W) (hblk : W.heap[g]? = some (.cells cs 3 (0, 0))) (hg : g ≠ b) (hcs : cs.toList = zs.map (Value.int .i64)) (hn : n = zs.length) (hL : L.length + zs.length * 1 ≤ 1099511627776) (hl : zs.length ≤ 1099511627776) :
    Calls Try.prog 66 #[.pointer (some ⟨b, 0, none⟩), .slice (some ⟨g, 0, none⟩) n n] W (Wrote B b (L ++ bes zs 1) W) :=
  u8_any B b v L zs _ n n _ (hO.later hb) hn (fun w' _ ho => lit_reads hblk hcs hg (by decide) w' ho) hl hL
theorem u16_g (B b : Nat) (v : Value) (L : List UInt8) (zs : List Int) (cs : Array Value) (n g : Nat) (W0 W : World) (hO : OutAt W0 B b v L) (hb : Below W0.heap.size W0 W) (hblk : W.heap[g]? = some (.cells cs 3 (0, 0))) (hg : g ≠ b) (hcs : cs.toList = zs.map (Value.int .i64)) (hn : n = zs.length) (hL : L.length + zs.length * 2 ≤ 1099511627776) (hl : zs.length ≤ 1099511627776) :
    Calls Try.prog 55 #[.pointer (some ⟨b, 0, none⟩), .slice (some ⟨g, 0, none⟩) n n] W (Wrote B b (L ++ bes zs 2) W) :=
  u16_any B b v L zs _ n n _ (hO.later hb) hn (fun w' _ ho => lit_reads hblk hcs hg (by decide) w' ho) hl hL
theorem u32_g (B b : Nat) (v : Value) (L : List UInt8) (zs : List Int) (cs : Array Value) (n g : Nat) (W0 W : World) (hO : OutAt W0 B b v L) (hb : Below W0.heap.size W0 W) (hblk : W.heap[g]? = some (.cells cs 22 (0, 0))) (hg : g ≠ b) (hcs : cs.toList = zs.map (Value.int .u32)) (hn : n = zs.length) (hL : L.length + zs.length * 4 ≤ 1099511627776) (hl : zs.length ≤ 1099511627776) :
    Calls Try.prog 54 #[.pointer (some ⟨b, 0, none⟩), .slice (some ⟨g, 0, none⟩) n n] W (Wrote B b (L ++ bes zs 4) W) :=
  u32_any B b v L zs _ n n _ (hO.later hb) hn (fun w' _ ho => lit_reads hblk hcs hg (by decide) w' ho) hl hL
theorem outRaw_g (B b : Nat) (v : Value) (L : List UInt8) (zs : List ByteArray) (cs : Array Value) (n g : Nat) (W0 W : World) (hO : OutAt W0 B b v L) (hb : Below W0.heap.size W0 W) (hblk : W.heap[g]? = some (.cells cs 9 (0, 0))) (hg : g ≠ b) (hcs : cs.toList = zs.map Value.string) (hn : n = zs.length) (hL : L.length + (cat zs).length ≤ 1099511627776) (hl : zs.length ≤ 1099511627776) :
    Calls Try.prog 67 #[.pointer (some ⟨b, 0, none⟩), .slice (some ⟨g, 0, none⟩) n n] W (Wrote B b (L ++ cat zs) W) :=
  outRaw_any B b v L zs _ n n _ (hO.later hb) hn (fun w' _ ho => lit_readsT hblk hcs hg (by decide) w' ho) hl hL
theorem heap_at_new (W : World) (o : Obj) (g : Nat) (hg : g = W.heap.size) : (W.alloc o).heap[g]? = some o := by subst hg; exact heap_alloc_new W o
theorem heap_at_old (W : World) (o o' : Obj) (g : Nat) (h : W.heap[g]? = some o') : (W.alloc o).heap[g]? = some o' := by
  rw [Below.heap_alloc _ _ _ (lt_of_block h)]; exact h
theorem heap_drewN (W : World) (n k : Nat) : (W.drewN n).heap[k]? = W.heap[k]? := (below_drewN (Below.refl (k + 1) W) n).block k (by omega)
theorem Others.drewN {b : Nat} {w w' : World} (h : Others b w w') (n : Nat) : Others b w (w'.drewN n) := fun k o hk hb hn => by rw [heap_drewN]; exact h k o hk hb hn
/-- What writing a header leaves. -/
def WroteH (B b : Nat) (L : List UInt8) (w : World) (e : Ending) (w' : World) : Prop := e = .returned (.tuple #[]) ∧ ∃ v', OutAt w' B b v' L ∧ Below B w w' ∧ Others b w w'
end Go.Proofs.Ytagimjaojpdfiaa
