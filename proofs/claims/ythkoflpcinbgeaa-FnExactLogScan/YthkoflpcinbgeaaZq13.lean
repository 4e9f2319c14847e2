/- The program lays an operation down: layOp. -/
import Derived.Test.YthkoflpcinbgeaaZq03
import Derived.Test.YthkoflpcinbgeaaZq09
import Derived.Test.YthkoflpcinbgeaaZq11
import Derived.Test.YthkoflpcinbgeaaZq12
import Derived.Lib.SmallJoins
import Derived.Deep.RegionHeld3
namespace Go.Proofs.Ythkoflpcinbgeaa
set_option linter.unusedVariables false
set_option linter.unusedSimpArgs false
open Go.RowKit
theorem Below.bytesW (w : World) (s : ByteArray) : Below w.heap.size w (Go.Lib.bytesWorld w 5 s) := Go.Joins.below_bytesWorld _ w _ s (Nat.le_refl _)
theorem wrapN8 (n : Nat) (h : n < 256) : IntKind.u8.wrap (n : Int) = ((n : Nat) : Int) := by simp [IntKind.wrap, IntKind.signed, IntKind.bits]; omega
theorem wrapN16 (n : Nat) (h : n < 65536) : IntKind.u16.wrap (n : Int) = ((n : Nat) : Int) := by simp [IntKind.wrap, IntKind.signed, IntKind.bits]; omega
theorem wrapN32 (n : Nat) (h : n < 4294967296) : IntKind.u32.wrap (n : Int) = ((n : Nat) : Int) := by simp [IntKind.wrap, IntKind.signed, IntKind.bits]; omega
theorem wrapN64 (A : Int) : IntKind.u64.wrap A = ((s64 A : Nat) : Int) := by rw [s64_cast]; simp [IntKind.wrap, IntKind.signed, IntKind.bits]
/-- What the values of the region are. -/
def VLo (bb base : Nat) (K : Nat) (A B : Int) (U G : Nat) (p q : ByteArray) (da : Option Addr) (dc : Nat) (ds : List Int) (i : Nat) (v : Value) (w : World) : Prop := match i with
  | 0 => v = .pointer (some ⟨bb, 0, none⟩)
  | 1 => v = .int .i64 (K : Int)
  | 2 => v = .int .u8 (K : Nat)
  | 3 => SlA 1 (le 1 K) v w
  | 4 => v = .pointer (some ⟨bb, 1, none⟩)
  | 5 => v = .int .i64 A
  | 6 => v = .int .u64 ((s64 A) : Nat)
  | 7 => SlA 8 (le 8 (s64 A)) v w
  | 8 => v = .pointer (some ⟨bb, 2, none⟩)
  | 9 => v = .int .i64 B
  | 10 => v = .int .u64 ((s64 B) : Nat)
  | 11 => SlA 8 (le 8 (s64 B)) v w
  | 12 => v = .pointer (some ⟨bb, 3, none⟩)
  | 13 => v = .int .i64 (U : Int)
  | 14 => v = .int .u16 (U : Nat)
  | 15 => SlA 2 (le 2 U) v w
  | 16 => v = .pointer (some ⟨bb, 4, none⟩)
  | 17 => v = .int .i64 (G : Int)
  | 18 => v = .int .u16 (G : Nat)
  | 19 => SlA 2 (le 2 G) v w
  | 20 => v = .pointer (some ⟨bb, 5, none⟩)
  | 21 => v = .string p
  | 22 => v = .int .i64 (p.size : Int)
  | 23 => v = .int .u16 (p.size : Nat)
  | 24 => SlA 2 (le 2 p.size) v w
  | 25 => v = .pointer (some ⟨bb, 5, none⟩)
  | 26 => v = .string p
  | 27 => SlA p.size (strI p) v w
  | 28 => v = .pointer (some ⟨bb, 6, none⟩)
  | 29 => v = .string q
  | 30 => v = .int .i64 (q.size : Int)
  | 31 => v = .int .u16 (q.size : Nat)
  | 32 => SlA 2 (le 2 q.size) v w
  | 33 => v = .pointer (some ⟨bb, 6, none⟩)
  | 34 => v = .string q
  | 35 => SlA q.size (strI q) v w
  | 36 => v = .pointer (some ⟨bb, 7, none⟩)
  | 37 => v = .slice da ds.length dc ∧ Rd .u8 w v ds
  | 38 => v = .int .i64 (ds.length : Int)
  | 39 => v = .int .u32 (ds.length : Nat)
  | 40 => SlA 4 (le 4 ds.length) v w
  | 41 => v = .pointer (some ⟨bb, 7, none⟩)
  | 42 => v = .slice da ds.length dc ∧ Rd .u8 w v ds
  | 43 => ∃ g, v = .slice (some ⟨g, 0, none⟩) 11 11 ∧ g < w.heap.size ∧ ∃ vs, (∀ j u, vs[j]? = some u → w.cell? ⟨g, j, none⟩ = some u) ∧ AllRd w vs (partsO K A B U G p q ds)
  | 44 => w.ownsRow base 5 1 v (bytesO K A B U G p q ds).length ((bytesO K A B U G p q ds).map (Value.int .u8))
  | 45 => w.ownsRow base 5 1 v (bytesO K A B U G p q ds).length ((bytesO K A B U G p q ds).map (Value.int .u8))
  | _ => False
theorem VLo.below {bb base K : Nat} {A B : Int} {U G : Nat} {p q : ByteArray} {da : Option Addr} {dc : Nat} {ds : List Int} {w w' : World} (hb : Below w.heap.size w w') : ∀ (j : Nat) (u : Value), VLo bb base K A B U G p q da dc ds j u w → VLo bb base K A B U G p q da dc ds j u w'
  | 0, _, h => h
  | 1, _, h => h
  | 2, _, h => h
  | 3, _, h => SlA.below h hb
  | 4, _, h => h
  | 5, _, h => h
  | 6, _, h => h
  | 7, _, h => SlA.below h hb
  | 8, _, h => h
  | 9, _, h => h
  | 10, _, h => h
  | 11, _, h => SlA.below h hb
  | 12, _, h => h
  | 13, _, h => h
  | 14, _, h => h
  | 15, _, h => SlA.below h hb
  | 16, _, h => h
  | 17, _, h => h
  | 18, _, h => h
  | 19, _, h => SlA.below h hb
  | 20, _, h => h
  | 21, _, h => h
  | 22, _, h => h
  | 23, _, h => h
  | 24, _, h => SlA.below h hb
  | 25, _, h => h
  | 26, _, h => h
  | 27, _, h => SlA.below h hb
  | 28, _, h => h
  | 29, _, h => h
  | 30, _, h => h
  | 31, _, h => h
  | 32, _, h => SlA.below h hb
  | 33, _, h => h
  | 34, _, h => h
  | 35, _, h => SlA.below h hb
  | 36, _, h => h
  | 37, _, h => ⟨h.1, h.2.below hb⟩
  | 38, _, h => h
  | 39, _, h => h
  | 40, _, h => SlA.below h hb
  | 41, _, h => h
  | 42, _, h => ⟨h.1, h.2.below hb⟩
  | 43, _, ⟨g, h1, h2, vs, h3, h4⟩ => ⟨g, h1, Nat.lt_of_lt_of_le h2 hb.size, vs, fun j u hu => (hb.cell (p := ⟨g, j, none⟩) h2).trans (h3 j u hu), h4.below hb⟩
  | 44, _, h => own_below h hb
  | 45, _, h => own_below h hb
  | _ + 46, _, h => h
end Go.Proofs.Ythkoflpcinbgeaa
