/- Numbers as parts of their own: lay behind nothing, numeral, at the four widths. Names as lists of numbers; a name turned to bytes; slices of bytes that are known by what they read as. Parts of any length put together: l02Join of the model, together of the program; l11Signed. -/
import Derived.Test.YtohmjfagbhnieaaGreatDoorZl03
import Derived.Test.YtohmjfagbhnieaaGreatDoorZl01
import Derived.Lib.ConvBytes
import Derived.Test.YtohmjfagbhnieaaGreatDoorZl09
import Derived.Laws.AppendOwnNone
namespace Go.Proofs.YtohmjfagbhnieaaGreatDoor
set_option linter.unusedVariables false
set_option linter.unusedSimpArgs false
open Go.RowKit

set_option maxRecDepth 100000 in
set_option maxHeartbeats 400000 in
theorem lay8nil (n : Nat) (w : World) (hn : n < 256) :
    Calls Tryz.prog 78 #[.slice none 0 0, .int .u8 n] w fun e w' => ∃ v', e = .returned v' ∧ w'.ownsRow w.heap.size 5 1 v' 1 ((le 1 n).map (Value.int .u8)) ∧ Below w.heap.size w w' := by
  obtain ⟨i0, hi, hz0, hz1, hz2⟩ := info_parts infoU8
  go_enter Tryz.func78, Tryz.ntmps78
  go_wp2_with (go_at_call 82; refine (width8 _).mono ?_; rintro e w' ⟨rfl, rfl⟩)
  go_loopw [0, 5, 9] (fun v r i wr => ∃ (j q : Nat) (ys : List Int), j ≤ 1 ∧ i = .int .i64 j ∧ r = .int .u64 q ∧ q < 281474976710656 ∧ le 1 n = ys ++ le (1 - j) q ∧ wr.ownsRow w.heap.size 5 1 v j (ys.map (Value.int .u8)) ∧ Below w.heap.size w wr) (fun _ _ i _ => 1 - (intOf i).toNat)
  case atStart => exact ⟨0, n, [], by omega, rfl, by go_num, by omega, rfl, World.ownsRow_nil _ _ _ _, Below.refl _ _⟩
  case round =>
    obtain ⟨j, q, ys, hj, rfl, rfl, hq, hle, hown, hb⟩ := hrel
    have HL : Hid (le 1 n = ys ++ le (1 - j) q) := hle
    have hsz := hb.size
    clear hle
    by_cases hlt : j < 1
    · go_wp2_with (at_builtin; refine wpList_append_own _ rfl _ _ 22 rfl w.heap.size 5 i0 (.int .u8 0) 1 1 Tryz.underlying22 hi hz0 hz1 hz2 rfl (by decide) _ _ _ rfl (hown.alloc _) ⟨wr.heap.size, 0, none⟩ 1 1 [.int .u8 ((q : Int) % 256)] rfl rfl (cell_one_new _ _ _) (one_u8 _) (by unfold maxLen; omega) (by omega) (by simp; omega) ?_; intro v1 w1 hown1 hgr1 _)
      have HW : Hid (w1.ownsRow w.heap.size 5 1 v1 (j + 1) ((ys ++ [((q % 256 : Nat) : Int)]).map (Value.int .u8)) ∧ Below w.heap.size w w1) := by
        refine ⟨?_, (hb.alloc hsz _).grown hgr1 (by simp; omega) (fun k h => (hown.lt k h).1)⟩
        have e : (ys ++ [((q % 256 : Nat) : Int)]).map (Value.int .u8) = ys.map (Value.int .u8) ++ [.int .u8 ((q : Int) % 256)] := by simp
        rw [e]
        exact hown1
      clear hown hown1 hgr1 hb
      go_roundw
      case rel => exact ⟨j + 1, q / 256, ys ++ [((q % 256 : Nat) : Int)], by omega, by go_num, by go_num, by omega, by rw [HL.out]; exact le_step ys 1 j q hlt, HW.out.1, HW.out.2⟩
      case measure => simp [intOf]; omega
    · go_wp2
      go_ret
      have e : j = 1 := by omega
      subst e
      have h := HL.out
      rw [Nat.sub_self, le, List.append_nil] at h
      rw [h]
      exact ⟨_, rfl, hown, hb⟩
theorem num8_any (n : Nat) (w : World) (hn : n < 256) :
    Calls Tryz.prog 58 #[.int .u8 n] w fun e w' => ∃ g cp, e = .returned (.slice (some ⟨g, 0, none⟩) 1 cp) ∧ w'.ownsRow w.heap.size 5 1 (.slice (some ⟨g, 0, none⟩) 1 cp) 1 ((le 1 n).map (Value.int .u8)) ∧ Below w.heap.size w w' := by
  go_enter Tryz.func58, Tryz.ntmps58
  go_wp2_with (go_at_call 78; fail)
  refine (lay8nil n _ hn).mono ?_
  rintro e w' ⟨v', rfl, ho, hb⟩
  have HO := hide (And.intro ho hb)
  clear ho hb
  go_wp2
  go_ret
  obtain ⟨ho, hb⟩ := HO.out
  rcases ho.2 with ⟨rfl, hn0⟩ | ⟨g, cap, cur, rfl, _⟩
  · omega
  · exact ⟨g, cap, rfl, ho, hb⟩

set_option maxRecDepth 100000 in
set_option maxHeartbeats 400000 in
theorem lay16nil (n : Nat) (w : World) (hn : n < 65536) :
    Calls Tryz.prog 79 #[.slice none 0 0, .int .u16 n] w fun e w' => ∃ v', e = .returned v' ∧ w'.ownsRow w.heap.size 5 1 v' 2 ((le 2 n).map (Value.int .u8)) ∧ Below w.heap.size w w' := by
  obtain ⟨i0, hi, hz0, hz1, hz2⟩ := info_parts infoU8
  go_enter Tryz.func79, Tryz.ntmps79
  go_wp2_with (go_at_call 90; refine (width16 _).mono ?_; rintro e w' ⟨rfl, rfl⟩)
  go_loopw [0, 5, 9] (fun v r i wr => ∃ (j q : Nat) (ys : List Int), j ≤ 2 ∧ i = .int .i64 j ∧ r = .int .u64 q ∧ q < 281474976710656 ∧ le 2 n = ys ++ le (2 - j) q ∧ wr.ownsRow w.heap.size 5 1 v j (ys.map (Value.int .u8)) ∧ Below w.heap.size w wr) (fun _ _ i _ => 2 - (intOf i).toNat)
  case atStart => exact ⟨0, n, [], by omega, rfl, by go_num, by omega, rfl, World.ownsRow_nil _ _ _ _, Below.refl _ _⟩
  case round =>
    obtain ⟨j, q, ys, hj, rfl, rfl, hq, hle, hown, hb⟩ := hrel
    have HL : Hid (le 2 n = ys ++ le (2 - j) q) := hle
    have hsz := hb.size
    clear hle
    by_cases hlt : j < 2
    · go_wp2_with (at_builtin; refine wpList_append_own _ rfl _ _ 22 rfl w.heap.size 5 i0 (.int .u8 0) 1 1 Tryz.underlying22 hi hz0 hz1 hz2 rfl (by decide) _ _ _ rfl (hown.alloc _) ⟨wr.heap.size, 0, none⟩ 1 1 [.int .u8 ((q : Int) % 256)] rfl rfl (cell_one_new _ _ _) (one_u8 _) (by unfold maxLen; omega) (by omega) (by simp; omega) ?_; intro v1 w1 hown1 hgr1 _)
      have HW : Hid (w1.ownsRow w.heap.size 5 1 v1 (j + 1) ((ys ++ [((q % 256 : Nat) : Int)]).map (Value.int .u8)) ∧ Below w.heap.size w w1) := by
        refine ⟨?_, (hb.alloc hsz _).grown hgr1 (by simp; omega) (fun k h => (hown.lt k h).1)⟩
        have e : (ys ++ [((q % 256 : Nat) : Int)]).map (Value.int .u8) = ys.map (Value.int .u8) ++ [.int .u8 ((q : Int) % 256)] := by simp
        rw [e]
        exact hown1
      clear hown hown1 hgr1 hb
      go_roundw
      case rel => exact ⟨j + 1, q / 256, ys ++ [((q % 256 : Nat) : Int)], by omega, by go_num, by go_num, by omega, by rw [HL.out]; exact le_step ys 2 j q hlt, HW.out.1, HW.out.2⟩
      case measure => simp [intOf]; omega
    · go_wp2
      go_ret
      have e : j = 2 := by omega
      subst e
      have h := HL.out
      rw [Nat.sub_self, le, List.append_nil] at h
      rw [h]
      exact ⟨_, rfl, hown, hb⟩
theorem num16_any (n : Nat) (w : World) (hn : n < 65536) :
    Calls Tryz.prog 59 #[.int .u16 n] w fun e w' => ∃ g cp, e = .returned (.slice (some ⟨g, 0, none⟩) 2 cp) ∧ w'.ownsRow w.heap.size 5 1 (.slice (some ⟨g, 0, none⟩) 2 cp) 2 ((le 2 n).map (Value.int .u8)) ∧ Below w.heap.size w w' := by
  go_enter Tryz.func59, Tryz.ntmps59
  go_wp2_with (go_at_call 79; fail)
  refine (lay16nil n _ hn).mono ?_
  rintro e w' ⟨v', rfl, ho, hb⟩
  have HO := hide (And.intro ho hb)
  clear ho hb
  go_wp2
  go_ret
  obtain ⟨ho, hb⟩ := HO.out
  rcases ho.2 with ⟨rfl, hn0⟩ | ⟨g, cap, cur, rfl, _⟩
  · omega
  · exact ⟨g, cap, rfl, ho, hb⟩

set_option maxRecDepth 100000 in
set_option maxHeartbeats 400000 in
theorem lay32nil (n : Nat) (w : World) (hn : n < 4294967296) :
    Calls Tryz.prog 44 #[.slice none 0 0, .int .u32 n] w fun e w' => ∃ v', e = .returned v' ∧ w'.ownsRow w.heap.size 5 1 v' 4 ((le 4 n).map (Value.int .u8)) ∧ Below w.heap.size w w' := by
  obtain ⟨i0, hi, hz0, hz1, hz2⟩ := info_parts infoU8
  go_enter Tryz.func44, Tryz.ntmps44
  go_wp2_with (go_at_call 61; refine (width32 _).mono ?_; rintro e w' ⟨rfl, rfl⟩)
  go_loopw [0, 5, 9] (fun v r i wr => ∃ (j q : Nat) (ys : List Int), j ≤ 4 ∧ i = .int .i64 j ∧ r = .int .u64 q ∧ q < 281474976710656 ∧ le 4 n = ys ++ le (4 - j) q ∧ wr.ownsRow w.heap.size 5 1 v j (ys.map (Value.int .u8)) ∧ Below w.heap.size w wr) (fun _ _ i _ => 4 - (intOf i).toNat)
  case atStart => exact ⟨0, n, [], by omega, rfl, by go_num, by omega, rfl, World.ownsRow_nil _ _ _ _, Below.refl _ _⟩
  case round =>
    obtain ⟨j, q, ys, hj, rfl, rfl, hq, hle, hown, hb⟩ := hrel
    have HL : Hid (le 4 n = ys ++ le (4 - j) q) := hle
    have hsz := hb.size
    clear hle
    by_cases hlt : j < 4
    · go_wp2_with (at_builtin; refine wpList_append_own _ rfl _ _ 22 rfl w.heap.size 5 i0 (.int .u8 0) 1 1 Tryz.underlying22 hi hz0 hz1 hz2 rfl (by decide) _ _ _ rfl (hown.alloc _) ⟨wr.heap.size, 0, none⟩ 1 1 [.int .u8 ((q : Int) % 256)] rfl rfl (cell_one_new _ _ _) (one_u8 _) (by unfold maxLen; omega) (by omega) (by simp; omega) ?_; intro v1 w1 hown1 hgr1 _)
      have HW : Hid (w1.ownsRow w.heap.size 5 1 v1 (j + 1) ((ys ++ [((q % 256 : Nat) : Int)]).map (Value.int .u8)) ∧ Below w.heap.size w w1) := by
        refine ⟨?_, (hb.alloc hsz _).grown hgr1 (by simp; omega) (fun k h => (hown.lt k h).1)⟩
        have e : (ys ++ [((q % 256 : Nat) : Int)]).map (Value.int .u8) = ys.map (Value.int .u8) ++ [.int .u8 ((q : Int) % 256)] := by simp
        rw [e]
        exact hown1
      clear hown hown1 hgr1 hb
      go_roundw
      case rel => exact ⟨j + 1, q / 256, ys ++ [((q % 256 : Nat) : Int)], by omega, by go_num, by go_num, by omega, by rw [HL.out]; exact le_step ys 4 j q hlt, HW.out.1, HW.out.2⟩
      case measure => simp [intOf]; omega
    · go_wp2
      go_ret
      have e : j = 4 := by omega
      subst e
      have h := HL.out
      rw [Nat.sub_self, le, List.append_nil] at h
      rw [h]
      exact ⟨_, rfl, hown, hb⟩
theorem num32_any (n : Nat) (w : World) (hn : n < 4294967296) :
    Calls Tryz.prog 30 #[.int .u32 n] w fun e w' => ∃ g cp, e = .returned (.slice (some ⟨g, 0, none⟩) 4 cp) ∧ w'.ownsRow w.heap.size 5 1 (.slice (some ⟨g, 0, none⟩) 4 cp) 4 ((le 4 n).map (Value.int .u8)) ∧ Below w.heap.size w w' := by
  go_enter Tryz.func30, Tryz.ntmps30
  go_wp2_with (go_at_call 44; fail)
  refine (lay32nil n _ hn).mono ?_
  rintro e w' ⟨v', rfl, ho, hb⟩
  have HO := hide (And.intro ho hb)
  clear ho hb
  go_wp2
  go_ret
  obtain ⟨ho, hb⟩ := HO.out
  rcases ho.2 with ⟨rfl, hn0⟩ | ⟨g, cap, cur, rfl, _⟩
  · omega
  · exact ⟨g, cap, rfl, ho, hb⟩

set_option maxRecDepth 100000 in
set_option maxHeartbeats 400000 in
theorem lay64nil (n : Nat) (w : World) (hn : n < 18446744073709551616) :
    Calls Tryz.prog 43 #[.slice none 0 0, .int .u64 n] w fun e w' => ∃ v', e = .returned v' ∧ w'.ownsRow w.heap.size 5 1 v' 8 ((le 8 n).map (Value.int .u8)) ∧ Below w.heap.size w w' := by
  obtain ⟨i0, hi, hz0, hz1, hz2⟩ := info_parts infoU8
  go_enter Tryz.func43, Tryz.ntmps43
  go_wp2_with (go_at_call 60; refine (width64 _).mono ?_; rintro e w' ⟨rfl, rfl⟩)
  go_loopw [0, 5, 8] (fun v r i wr => ∃ (j q : Nat) (ys : List Int), j ≤ 8 ∧ i = .int .i64 j ∧ r = .int .u64 q ∧ q < 18446744073709551616 ∧ le 8 n = ys ++ le (8 - j) q ∧ wr.ownsRow w.heap.size 5 1 v j (ys.map (Value.int .u8)) ∧ Below w.heap.size w wr) (fun _ _ i _ => 8 - (intOf i).toNat)
  case atStart => exact ⟨0, n, [], by omega, rfl, by go_num, by omega, rfl, World.ownsRow_nil _ _ _ _, Below.refl _ _⟩
  case round =>
    obtain ⟨j, q, ys, hj, rfl, rfl, hq, hle, hown, hb⟩ := hrel
    have HL : Hid (le 8 n = ys ++ le (8 - j) q) := hle
    have hsz := hb.size
    clear hle
    by_cases hlt : j < 8
    · go_wp2_with (at_builtin; refine wpList_append_own _ rfl _ _ 22 rfl w.heap.size 5 i0 (.int .u8 0) 1 1 Tryz.underlying22 hi hz0 hz1 hz2 rfl (by decide) _ _ _ rfl (hown.alloc _) ⟨wr.heap.size, 0, none⟩ 1 1 [.int .u8 ((q : Int) % 256)] rfl rfl (cell_one_new _ _ _) (one_u8 _) (by unfold maxLen; omega) (by omega) (by simp; omega) ?_; intro v1 w1 hown1 hgr1 _)
      have HW : Hid (w1.ownsRow w.heap.size 5 1 v1 (j + 1) ((ys ++ [((q % 256 : Nat) : Int)]).map (Value.int .u8)) ∧ Below w.heap.size w w1) := by
        refine ⟨?_, (hb.alloc hsz _).grown hgr1 (by simp; omega) (fun k h => (hown.lt k h).1)⟩
        have e : (ys ++ [((q % 256 : Nat) : Int)]).map (Value.int .u8) = ys.map (Value.int .u8) ++ [.int .u8 ((q : Int) % 256)] := by simp
        rw [e]
        exact hown1
      clear hown hown1 hgr1 hb
      go_roundw
      case rel => exact ⟨j + 1, q / 256, ys ++ [((q % 256 : Nat) : Int)], by omega, by go_num, by go_num, by omega, by rw [HL.out]; exact le_step ys 8 j q hlt, HW.out.1, HW.out.2⟩
      case measure => simp [intOf]; omega
    · go_wp2
      go_ret
      have e : j = 8 := by omega
      subst e
      have h := HL.out
      rw [Nat.sub_self, le, List.append_nil] at h
      rw [h]
      exact ⟨_, rfl, hown, hb⟩
theorem num64_any (n : Nat) (w : World) (hn : n < 18446744073709551616) :
    Calls Tryz.prog 29 #[.int .u64 n] w fun e w' => ∃ g cp, e = .returned (.slice (some ⟨g, 0, none⟩) 8 cp) ∧ w'.ownsRow w.heap.size 5 1 (.slice (some ⟨g, 0, none⟩) 8 cp) 8 ((le 8 n).map (Value.int .u8)) ∧ Below w.heap.size w w' := by
  go_enter Tryz.func29, Tryz.ntmps29
  go_wp2_with (go_at_call 43; fail)
  refine (lay64nil n _ hn).mono ?_
  rintro e w' ⟨v', rfl, ho, hb⟩
  have HO := hide (And.intro ho hb)
  clear ho hb
  go_wp2
  go_ret
  obtain ⟨ho, hb⟩ := HO.out
  rcases ho.2 with ⟨rfl, hn0⟩ | ⟨g, cap, cur, rfl, _⟩
  · omega
  · exact ⟨g, cap, rfl, ho, hb⟩

end Go.Proofs.YtohmjfagbhnieaaGreatDoor

namespace Go.Proofs.YtohmjfagbhnieaaGreatDoor
set_option linter.unusedVariables false
set_option linter.unusedSimpArgs false
open Go.RowKit

def strI (nm : ByteArray) : List Int := nm.data.toList.map fun b => (b.toNat : Int)
theorem strI_len (nm : ByteArray) : (strI nm).length = nm.size := by
  unfold strI
  rw [List.length_map, Array.length_toList]
  rfl
theorem strI_bd (nm : ByteArray) : ∀ z ∈ strI nm, 0 ≤ z ∧ z < 256 := by
  intro z hz
  unfold strI at hz
  obtain ⟨b, _, rfl⟩ := List.mem_map.1 hz
  have := b.toNat_lt
  omega
theorem wp_conv_sb {P : Program} {o : Oper} {a : Act} {w : World} {K : Act → World → Prop} {Q : Exit → Act → World → Prop} (src dst e : TypeId) (x : Operand) (ho : o.op = .convert src dst x) (s : ByteArray) (hx : a.eval x = .string s)
    (hs : P.underlying src = some .string) (hd : P.underlying dst = some (.slice e)) (he : P.underlying e = some (.int .u8))
    (h : K (a.put o.dst (.slice (some ⟨w.heap.size, 0, none⟩) s.size (grownCap w s.size 0 e))) (Go.Lib.bytesWorld w e s)) : o.wp P a w K Q := by
  unfold Oper.wp execOp
  simp only [ho, hx, Sem.run_bind, Sem.run_pure, Result.andThen_ok, Go.Lib.run_convert_string_bytes w src dst e s hs hd he]
  exact h
theorem rd_bytesW (w : World) (s : ByteArray) (hs : s.size ≤ maxLen) : Rd .u8 (Go.Lib.bytesWorld w 5 s) (.slice (some ⟨w.heap.size, 0, none⟩) s.size (grownCap w s.size 0 5)) (strI s) := by
  refine ⟨some ⟨w.heap.size, 0, none⟩, grownCap w s.size 0 5, by rw [strI_len], by rw [strI_len]; exact hs, fun _ => ⟨w.heap.size, 0, rfl, by rw [Go.Lib.bytesWorld_size]; omega, fun i hi => ?_⟩, by rw [strI_len]; exact grownCap_ge _ _ _ _, grownCap_le_maxLen _ _ _ _ hs⟩
  rw [strI_len] at hi
  rw [Nat.zero_add, Go.Lib.bytesWorld_cell w _ s i hi]
  unfold strI
  have hl : i < s.data.size := hi
  simp only [List.getD_eq_getElem?_getD, List.getElem?_map, Array.getElem?_toList, Array.getElem?_eq_getElem hl, Option.map_some, Option.getD_some]
/-- A slice of n bytes with an address, that reads so. -/
def SlA (n : Nat) (lst : List Int) (v : Value) (w : World) : Prop := (∃ g cp, v = .slice (some ⟨g, 0, none⟩) n cp) ∧ Rd .u8 w v lst
theorem SlA.below {n : Nat} {lst : List Int} {v : Value} {w w' : World} (h : SlA n lst v w) (hb : Below w.heap.size w w') : SlA n lst v w' := ⟨h.1, h.2.below hb⟩
/-- A whole number as the eight bytes of its two's complement tell it. -/
def s64 (A : Int) : Nat := (A % 18446744073709551616).toNat
theorem s64_lt (A : Int) : s64 A < 18446744073709551616 := by unfold s64; omega
theorem s64_cast (A : Int) : ((s64 A : Nat) : Int) = A % 18446744073709551616 := by unfold s64; omega
theorem s64_back (A : Int) (h : -9223372036854775808 ≤ A ∧ A ≤ 9223372036854775807) : wrap64 (s64 A : Nat) = A := by
  rw [s64_cast]; unfold wrap64; omega
/-- The bytes of an operation. -/
def partsO (K : Nat) (A B : Int) (U G : Nat) (p q : ByteArray) (ds : List Int) : List (List Int) := [le 1 K, le 8 (s64 A), le 8 (s64 B), le 2 U, le 2 G, le 2 p.size, strI p, le 2 q.size, strI q, le 4 ds.length, ds]
def bytesO (K : Nat) (A B : Int) (U G : Nat) (p q : ByteArray) (ds : List Int) : List Int := (partsO K A B U G p q ds).flatten
theorem bytesO_len (K : Nat) (A B : Int) (U G : Nat) (p q : ByteArray) (ds : List Int) : (bytesO K A B U G p q ds).length = 29 + p.size + q.size + ds.length := by
  unfold bytesO partsO
  simp only [List.flatten_cons, List.flatten_nil, List.length_append, List.length_nil, le_len, strI_len]
  omega
end Go.Proofs.YtohmjfagbhnieaaGreatDoor

namespace Go.Proofs.YtohmjfagbhnieaaGreatDoor
set_option linter.unusedVariables false
set_option linter.unusedSimpArgs false
open Go.RowKit

theorem run_append_emptyL {P : Program} {w : World} (base : Nat) (t ty e : TypeId) (i : TypeInfo) (size : Nat) (ht : P.underlying t = some (.slice e)) (hi : P.info? e = some i)
    (v : Value) (n : Nat) (xs : List Value) (hown : w.ownsRow base e size v n xs) (a : Option Addr) (c : Nat) :
    (Builtin.append_ #[t, t] ty #[v, .slice a 0 c]).run P w = .ok v w := by
  rcases hown.2 with ⟨rfl, rfl⟩ | ⟨g, cap, cur, rfl, _, _, hnc, _⟩
  · cases a <;> simp [Builtin.append_, run_underlying ht, sizeOf, typeInfo, hi, Builtin.lenOf, Builtin.firstCells, loadCells, loadCellsFrom]
  · cases a <;> simp [Builtin.append_, run_underlying ht, sizeOf, typeInfo, hi, Builtin.lenOf, Builtin.firstCells, hnc, storeCells, loadCells, loadCellsFrom]
theorem wpList_append_emptyL {P : Program} {w : World} {ops : Array Oper} {rest : List Oper} {o : Oper} {a : Act} {Q : Exit → Act → World → Prop} (hgd : o.guard = none) (s x : Operand) (t : TypeId)
    (ho : o.op = .call { callee := .builtin .append, args := #[s, x], argTypes := #[t, t] })
    (base : Nat) (e : TypeId) (i : TypeInfo) (size : Nat) (ht : P.underlying t = some (.slice e)) (hi : P.info? e = some i)
    (v : Value) (n : Nat) (xs : List Value) (hs : a.eval s = v) (hown : w.ownsRow base e size v n xs) (ad : Option Addr) (c : Nat) (hx : a.eval x = .slice ad 0 c)
    (h : wpList P ops Q rest (a.put o.dst v) w) : wpList P ops Q (o :: rest) a w := by
  refine wpList_plain hgd fun K hK => ?_
  have hrun := run_append_emptyL (P := P) (w := w) base t o.type e i size ht hi v n xs hown ad c
  unfold Oper.wp
  simp [execOp, ho, resolve, invoke, builtin, hs, hx, hrun, Result.andThen]
  exact hK _ _ h

set_option maxRecDepth 100000 in
set_option maxHeartbeats 1000000 in
theorem joinL_any (g n c : Nat) (vs : List Value) (bs : List (List Int)) (w : World) (hcell : ∀ j v, vs[j]? = some v → w.cell? ⟨g, j, none⟩ = some v) (hall : AllRd w vs bs) (hn : bs.length = n) (hn2 : n ≤ 1000) (htot : bs.flatten.length ≤ 1000000) (hg : g < w.heap.size) :
    Calls Tryz.prog 24 #[.slice (some ⟨g, 0, none⟩) n c] w fun e w' => ∃ v', e = .returned v' ∧ w'.ownsRow w.heap.size 5 1 v' bs.flatten.length (bs.flatten.map (Value.int .u8)) ∧ Below w.heap.size w w' := by
  obtain ⟨i0, hi, hz0, hz1', hz2⟩ := info_parts infoU8
  have HC := hide (And.intro hcell (And.intro hall (And.intro hn htot)))
  have H0 := hide (own_empty w 5)
  have hb0 := hide (show Below w.heap.size w (w.alloc (.cells #[] 5)) from (Below.refl _ _).alloc (Nat.le_refl _) _)
  clear hcell hall hn htot
  go_enter Tryz.func24, Tryz.ntmps24
  go_wp2
  go_loopw [3, 9] (fun o i wr => ∃ k : Nat, k ≤ n ∧ i = .int .i64 k ∧ wr.ownsRow w.heap.size 5 1 o (bs.take k).flatten.length ((bs.take k).flatten.map (Value.int .u8)) ∧ Below w.heap.size w wr) (fun _ i _ => n - (intOf i).toNat)
  case atStart => exact ⟨0, by omega, rfl, by simpa using H0.out, hb0.out⟩
  case round =>
    clear H0 hb0
    obtain ⟨k, hk, rfl, hown, hb⟩ := hrel
    have hsz := hb.size
    by_cases hlt : k < n
    · obtain ⟨v, hv, hr⟩ := HC.out.2.1.at k (by rw [HC.out.2.2.1]; exact hlt)
      have HT := hide (flatten_take bs k (by rw [HC.out.2.2.1]; exact hlt))
      have hle : (bs.take k).flatten.length + (bs.getD k []).length ≤ 1000000 := by
        have h1 := take_flat_len bs (k + 1)
        rw [HT.out, List.length_append] at h1
        have := HC.out.2.2.2
        omega
      have c1 : wr.cell? ⟨g, k, none⟩ = some v := (hb.cell (p := ⟨g, k, none⟩) hg).trans (HC.out.1 k v hv)
      generalize bs.getD k [] = z at hr HT hle
      by_cases hbk : 0 < z.length
      · obtain ⟨bd, off, cp, rfl, hbw, _, _, hcell3⟩ := (hr.below hb).partsC hbk
        have HX := hide (show ∀ (j : Nat) (u : Value), (z.map (Value.int .u8))[j]? = some u → wr.cell? ((⟨bd, off, none⟩ : Addr).add j) = some u from fun j u hj => by
          have hjl : j < z.length := by
            rcases Nat.lt_or_ge j z.length with h | h
            · exact h
            · rw [List.getElem?_eq_none (by simpa using h)] at hj; cases hj
          have ea : (⟨bd, off, none⟩ : Addr).add j = ⟨bd, off + j, none⟩ := by unfold Addr.add; split <;> simp_all
          rw [ea, hcell3 j hjl]
          rw [List.getElem?_map, List.getElem?_eq_getElem hjl] at hj
          simp at hj
          rw [← hj]
          simp [List.getD, hjl])
        have HO := hide (And.intro hown hb)
        clear hcell3 hr hown hb hv
        go_wp2_with (at_builtin; refine append_fresh _ rfl (.tmp 13) (.tmp 14) 22 rfl w.heap.size 5 i0 (.int .u8 0) 1 1 Tryz.underlying22 hi hz0 hz1' hz2 rfl (by decide) _ _ _ rfl HO.out.1 ⟨bd, off, none⟩ z.length cp (z.map (Value.int .u8)) rfl (by simp) HX.out (ints_oneCell _ _) hbk (by unfold maxLen; omega) (by omega) (by omega) ?_; intro v4 w4 o4 g4 f4)
        have HW := hide (show w4.ownsRow w.heap.size 5 1 v4 (bs.take (k + 1)).flatten.length ((bs.take (k + 1)).flatten.map (Value.int .u8)) ∧ Below w.heap.size w w4 from by
          refine ⟨?_, HO.out.2.grown g4 (by omega) (fun r h => (HO.out.1.lt r h).1)⟩
          rw [HT.out, List.map_append, List.length_append]
          exact o4)
        clear o4 g4 f4
        go_roundw
        case rel => exact ⟨k + 1, by omega, by go_num, HW.out.1, HW.out.2⟩
        case measure => simp [intOf]; omega
      · have hz : z = [] := List.eq_nil_of_length_eq_zero (by omega)
        subst hz
        obtain ⟨a3, c3, rfl⟩ : ∃ a3 c3, v = .slice a3 0 c3 := by obtain ⟨a3, c3, e3, _⟩ := hr; exact ⟨a3, c3, e3⟩
        have HO := hide (And.intro hown hb)
        clear hr hown hb hv
        go_wp2_with (at_builtin; refine wpList_append_emptyL rfl (.tmp 13) (.tmp 14) 22 rfl w.heap.size 5 i0 1 Tryz.underlying22 hi _ _ _ rfl HO.out.1 a3 c3 rfl ?_)
        have HW := hide (show wr.ownsRow w.heap.size 5 1 _ (bs.take (k + 1)).flatten.length ((bs.take (k + 1)).flatten.map (Value.int .u8)) ∧ Below w.heap.size w wr from by
          refine ⟨?_, HO.out.2⟩
          rw [HT.out, List.append_nil]
          exact HO.out.1)
        go_roundw
        case rel => exact ⟨k + 1, by omega, by go_num, HW.out.1, HW.out.2⟩
        case measure => simp [intOf]; omega
    · have HO := hide (And.intro hown hb)
      have e : k = n := by omega
      clear hown hb
      go_wp2
      go_ret
      have h2 := HO.out
      rw [List.take_of_length_le (by rw [HC.out.2.2.1]; omega)] at h2
      exact ⟨_, rfl, h2.1, h2.2⟩



set_option maxRecDepth 100000 in
set_option maxHeartbeats 1000000 in
theorem tog_any (g n c : Nat) (vs : List Value) (bs : List (List Int)) (w : World) (hcell : ∀ j v, vs[j]? = some v → w.cell? ⟨g, j, none⟩ = some v) (hall : AllRd w vs bs) (hn : bs.length = n) (hn2 : n ≤ 1000) (htot : bs.flatten.length ≤ 1000000) (hg : g < w.heap.size) :
    Calls Tryz.prog 28 #[.slice (some ⟨g, 0, none⟩) n c] w fun e w' => ∃ v', e = .returned v' ∧ w'.ownsRow w.heap.size 5 1 v' bs.flatten.length (bs.flatten.map (Value.int .u8)) ∧ Below w.heap.size w w' := by
  obtain ⟨i0, hi, hz0, hz1', hz2⟩ := info_parts infoU8
  have HC := hide (And.intro hcell (And.intro hall (And.intro hn htot)))
  have H0 := hide (World.ownsRow_nil w w.heap.size 5 1)
  have hb0 := hide (Below.refl w.heap.size w)
  clear hcell hall hn htot
  go_enter Tryz.func28, Tryz.ntmps28
  go_wp2
  go_loopw [3, 8] (fun o i wr => ∃ k : Nat, k ≤ n ∧ i = .int .i64 k ∧ wr.ownsRow w.heap.size 5 1 o (bs.take k).flatten.length ((bs.take k).flatten.map (Value.int .u8)) ∧ Below w.heap.size w wr) (fun _ i _ => n - (intOf i).toNat)
  case atStart => exact ⟨0, by omega, rfl, by simpa using H0.out, hb0.out⟩
  case round =>
    clear H0 hb0
    obtain ⟨k, hk, rfl, hown, hb⟩ := hrel
    have hsz := hb.size
    by_cases hlt : k < n
    · obtain ⟨v, hv, hr⟩ := HC.out.2.1.at k (by rw [HC.out.2.2.1]; exact hlt)
      have HT := hide (flatten_take bs k (by rw [HC.out.2.2.1]; exact hlt))
      have hle : (bs.take k).flatten.length + (bs.getD k []).length ≤ 1000000 := by
        have h1 := take_flat_len bs (k + 1)
        rw [HT.out, List.length_append] at h1
        have := HC.out.2.2.2
        omega
      have c1 : wr.cell? ⟨g, k, none⟩ = some v := (hb.cell (p := ⟨g, k, none⟩) hg).trans (HC.out.1 k v hv)
      generalize bs.getD k [] = z at hr HT hle
      by_cases hbk : 0 < z.length
      · obtain ⟨bd, off, cp, rfl, hbw, _, _, hcell3⟩ := (hr.below hb).partsC hbk
        have HX := hide (show ∀ (j : Nat) (u : Value), (z.map (Value.int .u8))[j]? = some u → wr.cell? ((⟨bd, off, none⟩ : Addr).add j) = some u from fun j u hj => by
          have hjl : j < z.length := by
            rcases Nat.lt_or_ge j z.length with h | h
            · exact h
            · rw [List.getElem?_eq_none (by simpa using h)] at hj; cases hj
          have ea : (⟨bd, off, none⟩ : Addr).add j = ⟨bd, off + j, none⟩ := by unfold Addr.add; split <;> simp_all
          rw [ea, hcell3 j hjl]
          rw [List.getElem?_map, List.getElem?_eq_getElem hjl] at hj
          simp at hj
          rw [← hj]
          simp [List.getD, hjl])
        have HO := hide (And.intro hown hb)
        clear hcell3 hr hown hb hv
        go_wp2_with (at_builtin; refine append_fresh _ rfl (.tmp 12) (.tmp 13) 22 rfl w.heap.size 5 i0 (.int .u8 0) 1 1 Tryz.underlying22 hi hz0 hz1' hz2 rfl (by decide) _ _ _ rfl HO.out.1 ⟨bd, off, none⟩ z.length cp (z.map (Value.int .u8)) rfl (by simp) HX.out (ints_oneCell _ _) hbk (by unfold maxLen; omega) (by omega) (by omega) ?_; intro v4 w4 o4 g4 f4)
        have HW := hide (show w4.ownsRow w.heap.size 5 1 v4 (bs.take (k + 1)).flatten.length ((bs.take (k + 1)).flatten.map (Value.int .u8)) ∧ Below w.heap.size w w4 from by
          refine ⟨?_, HO.out.2.grown g4 (by omega) (fun r h => (HO.out.1.lt r h).1)⟩
          rw [HT.out, List.map_append, List.length_append]
          exact o4)
        clear o4 g4 f4
        go_roundw
        case rel => exact ⟨k + 1, by omega, by go_num, HW.out.1, HW.out.2⟩
        case measure => simp [intOf]; omega
      · have hz : z = [] := List.eq_nil_of_length_eq_zero (by omega)
        subst hz
        obtain ⟨a3, c3, rfl⟩ : ∃ a3 c3, v = .slice a3 0 c3 := by obtain ⟨a3, c3, e3, _⟩ := hr; exact ⟨a3, c3, e3⟩
        have HO := hide (And.intro hown hb)
        clear hr hown hb hv
        go_wp2_with (at_builtin; refine wpList_append_emptyL rfl (.tmp 12) (.tmp 13) 22 rfl w.heap.size 5 i0 1 Tryz.underlying22 hi _ _ _ rfl HO.out.1 a3 c3 rfl ?_)
        have HW := hide (show wr.ownsRow w.heap.size 5 1 _ (bs.take (k + 1)).flatten.length ((bs.take (k + 1)).flatten.map (Value.int .u8)) ∧ Below w.heap.size w wr from by
          refine ⟨?_, HO.out.2⟩
          rw [HT.out, List.append_nil]
          exact HO.out.1)
        go_roundw
        case rel => exact ⟨k + 1, by omega, by go_num, HW.out.1, HW.out.2⟩
        case measure => simp [intOf]; omega
    · have HO := hide (And.intro hown hb)
      have e : k = n := by omega
      clear hown hb
      go_wp2
      go_ret
      have h2 := HO.out
      rw [List.take_of_length_le (by rw [HC.out.2.2.1]; omega)] at h2
      exact ⟨_, rfl, h2.1, h2.2⟩



set_option maxRecDepth 100000 in
set_option maxHeartbeats 400000 in
theorem signed_any (A : Int) (w : World) :
    Calls Tryz.prog 34 #[.int .i64 A] w fun e w' => ∃ g cp, e = .returned (.slice (some ⟨g, 0, none⟩) 8 cp) ∧ w'.ownsRow w.heap.size 5 1 (.slice (some ⟨g, 0, none⟩) 8 cp) 8 ((le 8 (s64 A)).map (Value.int .u8)) ∧ Below w.heap.size w w' := by
  obtain ⟨i0, hi, hz0, hz1, hz2⟩ := info_parts infoU8
  have h0 := own_empty w 5
  have hb0 : Below w.heap.size w (w.alloc (.cells #[] 5)) := (Below.refl _ _).alloc (Nat.le_refl _) _
  have hA := s64_cast A
  have hB := s64_lt A
  have HV := hide (show IntKind.u64.wrap A = ((s64 A : Nat) : Int) from by rw [hA]; simp [IntKind.wrap, IntKind.signed, IntKind.bits])
  go_enter Tryz.func34, Tryz.ntmps34
  go_wp2
  go_loopw [3, 4, 5] (fun x o i wr => ∃ (j q : Nat) (ys : List Int), j ≤ 8 ∧ i = .int .i64 j ∧ x = .int .u64 q ∧ q < 18446744073709551616 ∧ le 8 (s64 A) = ys ++ le (8 - j) q ∧ wr.ownsRow w.heap.size 5 1 o j (ys.map (Value.int .u8)) ∧ Below w.heap.size w wr) (fun _ _ i _ => 8 - (intOf i).toNat)
  case atStart => exact ⟨0, s64 A, [], by omega, rfl, by rw [← HV.out], hB, rfl, by simpa using h0, hb0⟩
  case round =>
    clear h0 hb0 HV
    obtain ⟨j, q, ys, hj, rfl, rfl, hq, hle, hown, hb⟩ := hrel
    have HL : Hid (le 8 (s64 A) = ys ++ le (8 - j) q) := hle
    clear hle hA hB
    have hsz := hb.size
    by_cases hlt : j < 8
    · go_wp2_with (at_builtin; refine wpList_append_own _ rfl _ _ 22 rfl w.heap.size 5 i0 (.int .u8 0) 1 1 Tryz.underlying22 hi hz0 hz1 hz2 rfl (by decide) _ _ _ rfl (hown.alloc _) ⟨wr.heap.size, 0, none⟩ 1 1 [.int .u8 ((q : Int) % 256)] rfl rfl (cell_one_new _ _ _) (one_u8 _) (by unfold maxLen; omega) (by omega) (by simp; omega) ?_; intro v1 w1 hown1 hgr1 _)
      have HW : Hid (w1.ownsRow w.heap.size 5 1 v1 (j + 1) ((ys ++ [((q % 256 : Nat) : Int)]).map (Value.int .u8)) ∧ Below w.heap.size w w1) := by
        refine ⟨?_, (hb.alloc hsz _).grown hgr1 (by simp; omega) (fun k h => (hown.lt k h).1)⟩
        have e : (ys ++ [((q % 256 : Nat) : Int)]).map (Value.int .u8) = ys.map (Value.int .u8) ++ [.int .u8 ((q : Int) % 256)] := by simp
        rw [e]
        exact hown1
      clear hown hown1 hgr1 hb
      go_roundw
      case rel => exact ⟨j + 1, q / 256, ys ++ [((q % 256 : Nat) : Int)], by omega, by go_num, by go_num, by omega, by rw [HL.out]; exact le_step ys 8 j q hlt, HW.out.1, HW.out.2⟩
      case measure => simp [intOf]; omega
    · go_wp2
      go_ret
      have e : j = 8 := by omega
      subst e
      have h := HL.out
      rw [Nat.sub_self, le, List.append_nil] at h
      rw [h]
      rcases hown.2 with ⟨rfl, hn0⟩ | ⟨g, cap, cur, rfl, _⟩
      · omega
      · exact ⟨g, cap, rfl, hown, hb⟩
end Go.Proofs.YtohmjfagbhnieaaGreatDoor
