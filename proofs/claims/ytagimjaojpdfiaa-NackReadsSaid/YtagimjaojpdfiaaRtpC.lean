/- rtp: packets as values; which may be. -/
import Derived.Test.YtagimjaojpdfiaaPenL
import Derived.Test.YtagimjaojpdfiaaCut
namespace Go.Proofs.Ytagimjaojpdfiaa
open Go.RowKit
set_option linter.unusedVariables false
/-- A packet. -/
structure PK where
  mrk : Bool
  kind : Int
  seq : Int
  time : Int
  source : Int
  others : List Int
  hx : Bool
  prof : Int
  ext : ByteArray
  data : ByteArray
  pad : Int
def PK.cells (p : PK) (a : Option Addr) (c : Nat) : Array Value := #[.bool p.mrk, .int .i64 p.kind, .int .u16 p.seq, .int .u32 p.time, .int .u32 p.source, .slice a p.others.length c, .bool p.hx, .int .i64 p.prof, .string p.ext, .string p.data, .int .i64 p.pad]
def PK.hcells (p : PK) (a : Option Addr) (c : Nat) : Array Value := #[.bool p.mrk, .int .i64 p.kind, .int .u16 p.seq, .int .u32 p.time, .int .u32 p.source, .slice a p.others.length c, .bool p.hx, .int .i64 p.prof, .string p.ext]
def PK.rcells (p : PK) (a : Option Addr) (c : Nat) : Array Value := #[.bool p.mrk, .int .i64 p.kind, .int .i64 p.seq, .int .i64 p.time, .int .i64 p.source, .slice a p.others.length c, .bool p.hx, .int .i64 p.prof, .string p.ext, .string p.data, .int .i64 p.pad]
def hdrOk (p : PK) : Prop := 0 ≤ p.kind ∧ p.kind ≤ 127 ∧ p.others.length ≤ 15 ∧ (p.hx = false → p.prof = 0 ∧ p.ext.size = 0) ∧ (p.hx = true → 0 ≤ p.prof ∧ p.prof ≤ 65535 ∧ p.ext.size % 4 = 0 ∧ p.ext.size ≤ 262140)
def mayOk (p : PK) : Prop := hdrOk p ∧ 0 ≤ p.pad ∧ p.pad ≤ 255
instance (p : PK) : Decidable (hdrOk p) := by unfold hdrOk; infer_instance
instance (p : PK) : Decidable (mayOk p) := by unfold mayOk; infer_instance
theorem hdr_f (mrk : Bool) (kind seq time source : Int) (others : List Int) (prof : Int) (ext data : ByteArray) (pad : Int) : hdrOk ⟨mrk, kind, seq, time, source, others, false, prof, ext, data, pad⟩ ↔ (0 ≤ kind ∧ kind ≤ 127 ∧ others.length ≤ 15 ∧ prof = 0 ∧ ext.size = 0) :=
  ⟨fun ⟨h1, h2, h3, h4, h5⟩ => ⟨h1, h2, h3, (h4 rfl).1, (h4 rfl).2⟩, fun ⟨h1, h2, h3, h4, h5⟩ => ⟨h1, h2, h3, fun _ => ⟨h4, h5⟩, fun h => by cases h⟩⟩
theorem hdr_t (mrk : Bool) (kind seq time source : Int) (others : List Int) (prof : Int) (ext data : ByteArray) (pad : Int) : hdrOk ⟨mrk, kind, seq, time, source, others, true, prof, ext, data, pad⟩ ↔ (0 ≤ kind ∧ kind ≤ 127 ∧ others.length ≤ 15 ∧ 0 ≤ prof ∧ prof ≤ 65535 ∧ ext.size % 4 = 0 ∧ ext.size ≤ 262140) :=
  ⟨fun ⟨h1, h2, h3, h4, h5⟩ => ⟨h1, h2, h3, h5 rfl⟩, fun ⟨h1, h2, h3, h4⟩ => ⟨h1, h2, h3, fun h => (by cases h), fun _ => h4⟩⟩
end Go.Proofs.Ytagimjaojpdfiaa
