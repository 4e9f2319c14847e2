/- Names as lists of numbers; a name turned to bytes; slices of bytes that are known by what they read as. -/
import Derived.Test.YthkoflpcinbgeaaDoorBase
import Derived.Test.YthkoflpcinbgeaaDoorLay
import Derived.Lib.ConvBytes
namespace Go.Proofs.YthkoflpcinbgeaaDoor
set_option linter.unusedVariables false
set_option linter.unusedSimpArgs false
open Go.RowKit

def strI (nm : ByteArray) : List Int := nm.data.toList.map fun b => (b.toNat : Int)
theorem strI_len (nm : ByteArray) : (strI nm).length = nm.size := by
  unfold strI
  rw [List.length_map, Array.length_toList]
  rfl
theorem strI_bd (nm : ByteArray) : ∀ z ∈ strI nm, 0 ≤ z ∧ z < 256 := by
  intro z hz
  unfold strI at hz
  obtain ⟨b, _, rfl⟩ := List.mem_map.1 hz
  have := b.toNat_lt
  omega
theorem wp_conv_sb {P : Program} {o : Oper} {a : Act} {w : World} {K : Act → World → Prop} {Q : Exit → Act → World → Prop} (src dst e : TypeId) (x : Operand) (ho : o.op = .convert src dst x) (s : ByteArray) (hx : a.eval x = .string s)
    (hs : P.underlying src = some .string) (hd : P.underlying dst = some (.slice e)) (he : P.underlying e = some (.int .u8))
    (h : K (a.put o.dst (.slice (some ⟨w.heap.size, 0, none⟩) s.size (grownCap w s.size 0 e))) (Go.Lib.bytesWorld w e s)) : o.wp P a w K Q := by
  unfold Oper.wp execOp
  simp only [ho, hx, Sem.run_bind, Sem.run_pure, Result.andThen_ok, Go.Lib.run_convert_string_bytes w src dst e s hs hd he]
  exact h
theorem rd_bytesW (w : World) (s : ByteArray) (hs : s.size ≤ maxLen) : Rd .u8 (Go.Lib.bytesWorld w 5 s) (.slice (some ⟨w.heap.size, 0, none⟩) s.size (grownCap w s.size 0 5)) (strI s) := by
  refine ⟨some ⟨w.heap.size, 0, none⟩, grownCap w s.size 0 5, by rw [strI_len], by rw [strI_len]; exact hs, fun _ => ⟨w.heap.size, 0, rfl, by rw [Go.Lib.bytesWorld_size]; omega, fun i hi => ?_⟩, by rw [strI_len]; exact grownCap_ge _ _ _ _, grownCap_le_maxLen _ _ _ _ hs⟩
  rw [strI_len] at hi
  rw [Nat.zero_add, Go.Lib.bytesWorld_cell w _ s i hi]
  unfold strI
  have hl : i < s.data.size := hi
  simp only [List.getD_eq_getElem?_getD, List.getElem?_map, Array.getElem?_toList, Array.getElem?_eq_getElem hl, Option.map_some, Option.getD_some]
/-- A slice of n bytes with an address, that reads so. -/
def SlA (n : Nat) (lst : List Int) (v : Value) (w : World) : Prop := (∃ g cp, v = .slice (some ⟨g, 0, none⟩) n cp) ∧ Rd .u8 w v lst
theorem SlA.below {n : Nat} {lst : List Int} {v : Value} {w w' : World} (h : SlA n lst v w) (hb : Below w.heap.size w w') : SlA n lst v w' := ⟨h.1, h.2.below hb⟩
/-- A whole number as the eight bytes of its two's complement tell it. -/
def s64 (A : Int) : Nat := (A % 18446744073709551616).toNat
theorem s64_lt (A : Int) : s64 A < 18446744073709551616 := by unfold s64; omega
theorem s64_cast (A : Int) : ((s64 A : Nat) : Int) = A % 18446744073709551616 := by unfold s64; omega
theorem s64_back (A : Int) (h : -9223372036854775808 ≤ A ∧ A ≤ 9223372036854775807) : wrap64 (s64 A : Nat) = A := by
  rw [s64_cast]; unfold wrap64; omega
/-- The bytes of an operation. -/
def partsO (K : Nat) (A B : Int) (U G : Nat) (p q : ByteArray) (ds : List Int) : List (List Int) := [le 1 K, le 8 (s64 A), le 8 (s64 B), le 2 U, le 2 G, le 2 p.size, strI p, le 2 q.size, strI q, le 4 ds.length, ds]
def bytesO (K : Nat) (A B : Int) (U G : Nat) (p q : ByteArray) (ds : List Int) : List Int := (partsO K A B U G p q ds).flatten
theorem bytesO_len (K : Nat) (A B : Int) (U G : Nat) (p q : ByteArray) (ds : List Int) : (bytesO K A B U G p q ds).length = 29 + p.size + q.size + ds.length := by
  unfold bytesO partsO
  simp only [List.flatten_cons, List.flatten_nil, List.length_append, List.length_nil, le_len, strI_len]
  omega
end Go.Proofs.YthkoflpcinbgeaaDoor
