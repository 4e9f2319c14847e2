/- A number laid down at the end of bytes that are owned and have room: lay at its four widths. The model's numbers as bytes: l02Put, l02Get. -/
import Derived.Test.YthkoflpcinbgeaaZq01
import Derived.WalkSpells
namespace Go.Proofs.Ythkoflpcinbgeaa
open Go.RowKit

/-- The m lowest bytes of n, the lowest first. -/
def le : Nat → Nat → List Int
  | 0, _ => []
  | m + 1, n => ((n % 256 : Nat) : Int) :: le m (n / 256)
theorem le_len : ∀ m n, (le m n).length = m
  | 0, _ => rfl
  | m + 1, n => by simp [le, le_len m]
theorem le_step (ys : List Int) (m j q : Nat) (h : j < m) : ys ++ le (m - j) q = ys ++ [((q % 256 : Nat) : Int)] ++ le (m - (j + 1)) (q / 256) := by
  have e : m - j = (m - (j + 1)) + 1 := by omega
  rw [e, le]
  simp
theorem one_u8 (z : Int) : ∀ u ∈ [Value.int .u8 z], u.oneCell' = true := by
  intro u hu
  rw [List.mem_singleton] at hu
  subst hu
  rfl

set_option maxRecDepth 100000 in
theorem len64_32 (w : World) : Calls Try.prog 52 #[.int .u64 4294967295] w fun e w' => e = .returned (.int .i64 32) ∧ w = w' := by
  go_enter Try.func52, Try.ntmps52
  go_wp2
  go_ret
  exact ⟨ret_int (by simp only [wrap64]; decide +kernel), rfl⟩
theorem width32 (w : World) : Calls Try.prog 45 #[] w fun e w' => e = .returned (.int .i64 4) ∧ w = w' := by
  have hx : IntKind.u64.wrap (bits BinOp.xor IntKind.u32 IntKind.u32.max 0) = 4294967295 := by decide +kernel
  go_enter Try.func45, Try.ntmps45
  go_wp2_with fail
  refine (len64_32 _).mono ?_
  rintro e w' ⟨rfl, rfl⟩
  go_wp2
  go_ret
  exact ⟨rfl, rfl⟩

set_option maxRecDepth 100000 in
theorem len64_8 (w : World) : Calls Try.prog 52 #[.int .u64 255] w fun e w' => e = .returned (.int .i64 8) ∧ w = w' := by
  go_enter Try.func52, Try.ntmps52
  go_wp2
  go_ret
  exact ⟨ret_int (by simp only [wrap64]; decide +kernel), rfl⟩
theorem width8 (w : World) : Calls Try.prog 53 #[] w fun e w' => e = .returned (.int .i64 1) ∧ w = w' := by
  have hx : IntKind.u64.wrap (bits BinOp.xor IntKind.u8 IntKind.u8.max 0) = 255 := by decide +kernel
  go_enter Try.func53, Try.ntmps53
  go_wp2_with fail
  refine (len64_8 _).mono ?_
  rintro e w' ⟨rfl, rfl⟩
  go_wp2
  go_ret
  exact ⟨rfl, rfl⟩

set_option maxRecDepth 100000 in
theorem len64_16 (w : World) : Calls Try.prog 52 #[.int .u64 65535] w fun e w' => e = .returned (.int .i64 16) ∧ w = w' := by
  go_enter Try.func52, Try.ntmps52
  go_wp2
  go_ret
  exact ⟨ret_int (by simp only [wrap64]; decide +kernel), rfl⟩
theorem width16 (w : World) : Calls Try.prog 54 #[] w fun e w' => e = .returned (.int .i64 2) ∧ w = w' := by
  have hx : IntKind.u64.wrap (bits BinOp.xor IntKind.u16 IntKind.u16.max 0) = 65535 := by decide +kernel
  go_enter Try.func54, Try.ntmps54
  go_wp2_with fail
  refine (len64_16 _).mono ?_
  rintro e w' ⟨rfl, rfl⟩
  go_wp2
  go_ret
  exact ⟨rfl, rfl⟩

set_option maxRecDepth 100000 in
theorem len64_64 (w : World) : Calls Try.prog 52 #[.int .u64 18446744073709551615] w fun e w' => e = .returned (.int .i64 64) ∧ w = w' := by
  go_enter Try.func52, Try.ntmps52
  go_wp2
  go_ret
  exact ⟨ret_int (by simp only [wrap64]; decide +kernel), rfl⟩
theorem width64 (w : World) : Calls Try.prog 44 #[] w fun e w' => e = .returned (.int .i64 8) ∧ w = w' := by
  have hx : IntKind.u64.wrap (bits BinOp.xor IntKind.u64 IntKind.u64.max 0) = 18446744073709551615 := by decide +kernel
  go_enter Try.func44, Try.ntmps44
  go_wp2_with fail
  refine (len64_64 _).mono ?_
  rintro e w' ⟨rfl, rfl⟩
  go_wp2
  go_ret
  exact ⟨rfl, rfl⟩

end Go.Proofs.Ythkoflpcinbgeaa

namespace Go.Proofs.Ythkoflpcinbgeaa
open Go.RowKit

theorem own_empty (w : World) (e : TypeId) : (w.alloc (.cells #[] e)).ownsRow w.heap.size e 1 (.slice (some ⟨w.heap.size, 0, none⟩) 0 0) 0 [] := by
  have h := World.ownsRow_lit (base := w.heap.size) (e := e) (size := 1) w #[] 0 (Nat.le_refl _) (by simp) rfl
  simpa using h

set_option maxRecDepth 100000 in
set_option maxHeartbeats 400000 in
theorem put_any (v n : Nat) (w : World) (hv : v < 281474976710656) (hn : n ≤ 8) :
    Calls Try.prog 32 #[.int .i64 v, .int .i64 n] w fun e w' => ∃ v', e = .returned v' ∧ w'.ownsRow w.heap.size 5 1 v' n ((le n v).map (Value.int .u8)) ∧ Below w.heap.size w w' := by
  obtain ⟨i0, hi, hz0, hz1, hz2⟩ := info_parts infoU8
  have h0 := own_empty w 5
  have hb0 : Below w.heap.size w (w.alloc (.cells #[] 5)) := (Below.refl _ _).alloc (Nat.le_refl _) _
  go_enter Try.func32, Try.ntmps32
  go_wp2
  go_loopw [0, 5, 6] (fun x o i wr => ∃ (j q : Nat) (ys : List Int), j ≤ n ∧ i = .int .i64 j ∧ x = .int .i64 q ∧ q < 281474976710656 ∧ le n v = ys ++ le (n - j) q ∧ wr.ownsRow w.heap.size 5 1 o j (ys.map (Value.int .u8)) ∧ Below w.heap.size w wr) (fun _ _ i _ => n - (intOf i).toNat)
  case atStart => exact ⟨0, v, [], Nat.zero_le _, rfl, rfl, hv, rfl, by simpa using h0, hb0⟩
  case round =>
    clear h0 hb0
    obtain ⟨j, q, ys, hj, rfl, rfl, hq, hle, hown, hb⟩ := hrel
    have HL : Hid (le n v = ys ++ le (n - j) q) := hle
    clear hle
    have hsz := hb.size
    by_cases hlt : j < n
    · go_wp2_with (at_builtin; refine wpList_append_own _ rfl _ _ 22 rfl w.heap.size 5 i0 (.int .u8 0) 1 1 Try.underlying22 hi hz0 hz1 hz2 rfl (by decide) _ _ _ rfl (hown.alloc _) ⟨wr.heap.size, 0, none⟩ 1 1 [.int .u8 ((q : Int) % 256)] rfl rfl (cell_one_new _ _ _) (one_u8 _) (by unfold maxLen; omega) (by omega) (by simp; omega) ?_; intro v1 w1 hown1 hgr1 _)
      have HW : Hid (w1.ownsRow w.heap.size 5 1 v1 (j + 1) ((ys ++ [((q % 256 : Nat) : Int)]).map (Value.int .u8)) ∧ Below w.heap.size w w1) := by
        refine ⟨?_, (hb.alloc hsz _).grown hgr1 (by simp; omega) (fun k h => (hown.lt k h).1)⟩
        have e : (ys ++ [((q % 256 : Nat) : Int)]).map (Value.int .u8) = ys.map (Value.int .u8) ++ [.int .u8 ((q : Int) % 256)] := by simp
        rw [e]
        exact hown1
      clear hown hown1 hgr1 hb
      go_roundw
      case rel => exact ⟨j + 1, q / 256, ys ++ [((q % 256 : Nat) : Int)], by omega, by go_num, by go_num, by omega, by rw [HL.out]; exact le_step ys n j q hlt, HW.out.1, HW.out.2⟩
      case measure => simp [intOf]; omega
    · go_wp2
      go_ret
      have e : j = n := by omega
      subst e
      have h := HL.out
      rw [Nat.sub_self, le, List.append_nil] at h
      rw [h]
      exact ⟨_, rfl, hown, hb⟩

theorem put_pos (v n : Nat) (w : World) (hv : v < 281474976710656) (hn : n ≤ 8) (h0 : 0 < n) :
    Calls Try.prog 32 #[.int .i64 v, .int .i64 n] w fun e w' => ∃ g cp, e = .returned (.slice (some ⟨g, 0, none⟩) n cp) ∧ w'.ownsRow w.heap.size 5 1 (.slice (some ⟨g, 0, none⟩) n cp) n ((le n v).map (Value.int .u8)) ∧ Below w.heap.size w w' := by
  refine (put_any v n w hv hn).mono ?_
  rintro e w' ⟨v', rfl, ho, hb⟩
  rcases ho.2 with ⟨rfl, hn0⟩ | ⟨g, cap, cur, rfl, _⟩
  · omega
  · exact ⟨g, cap, rfl, ho, hb⟩
end Go.Proofs.Ythkoflpcinbgeaa
