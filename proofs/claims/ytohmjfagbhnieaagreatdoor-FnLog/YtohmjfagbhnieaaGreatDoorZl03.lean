/- A number laid down at the end of bytes that are owned and have room: lay at its four widths. The model's numbers as bytes: l02Put, l02Get. The laws' own helpers over []int: a copy, two held against each other, marks. The model's look at a root: l02Pointer, l02Pointers, l02Root. -/
import Derived.Test.YtohmjfagbhnieaaGreatDoorZl02
import Derived.WalkSpells
import Derived.WalkLawsBesides
import Derived.Deep.QuietTactic
import Derived.BigQuiet
namespace Go.Proofs.YtohmjfagbhnieaaGreatDoor
open Go.RowKit

/-- The m lowest bytes of n, the lowest first. -/
def le : Nat → Nat → List Int
  | 0, _ => []
  | m + 1, n => ((n % 256 : Nat) : Int) :: le m (n / 256)
theorem le_len : ∀ m n, (le m n).length = m
  | 0, _ => rfl
  | m + 1, n => by simp [le, le_len m]
theorem le_step (ys : List Int) (m j q : Nat) (h : j < m) : ys ++ le (m - j) q = ys ++ [((q % 256 : Nat) : Int)] ++ le (m - (j + 1)) (q / 256) := by
  have e : m - j = (m - (j + 1)) + 1 := by omega
  rw [e, le]
  simp
theorem one_u8 (z : Int) : ∀ u ∈ [Value.int .u8 z], u.oneCell' = true := by
  intro u hu
  rw [List.mem_singleton] at hu
  subst hu
  rfl

set_option maxRecDepth 100000 in
theorem len64_32 (w : World) : Calls Tryz.prog 80 #[.int .u64 4294967295] w fun e w' => e = .returned (.int .i64 32) ∧ w = w' := by
  go_enter Tryz.func80, Tryz.ntmps80
  go_wp2
  go_ret
  exact ⟨ret_int (by simp only [wrap64]; decide +kernel), rfl⟩
theorem width32 (w : World) : Calls Tryz.prog 61 #[] w fun e w' => e = .returned (.int .i64 4) ∧ w = w' := by
  have hx : IntKind.u64.wrap (bits BinOp.xor IntKind.u32 IntKind.u32.max 0) = 4294967295 := by decide +kernel
  go_enter Tryz.func61, Tryz.ntmps61
  go_wp2_with fail
  refine (len64_32 _).mono ?_
  rintro e w' ⟨rfl, rfl⟩
  go_wp2
  go_ret
  exact ⟨rfl, rfl⟩

set_option maxRecDepth 100000 in
set_option maxHeartbeats 400000 in
theorem lay32_any (g base k cap n : Nat) (xs : List Value) (w : World) (h : w.ownsRow base 5 1 (.slice (some ⟨g, 0, none⟩) k cap) k xs) (hr : k + 4 ≤ cap) (_hcap : cap ≤ 140737488355328) (hn : n < 4294967296) :
    Calls Tryz.prog 44 #[.slice (some ⟨g, 0, none⟩) k cap, .int .u32 n] w fun e w' => e = .returned (.slice (some ⟨g, 0, none⟩) (k + 4) cap) ∧ w'.ownsRow base 5 1 (.slice (some ⟨g, 0, none⟩) (k + 4) cap) (k + 4) (xs ++ (le 4 n).map (Value.int .u8)) ∧ w.grownBy w' (some g) := by
  obtain ⟨i0, hi, hz0, hz1, hz2⟩ := info_parts infoU8
  have hgl := h.lt g rfl
  go_enter Tryz.func44, Tryz.ntmps44
  go_wp2_with (go_at_call 61; refine (width32 _).mono ?_; rintro e w' ⟨rfl, rfl⟩)
  go_loopw [0, 5, 9] (fun v r i wr => ∃ (j q : Nat) (ys : List Int), j ≤ 4 ∧ i = .int .i64 j ∧ r = .int .u64 q ∧ q < 281474976710656 ∧ v = .slice (some ⟨g, 0, none⟩) (k + j) cap ∧ le 4 n = ys ++ le (4 - j) q ∧ wr.ownsRow base 5 1 (.slice (some ⟨g, 0, none⟩) (k + j) cap) (k + j) (xs ++ ys.map (Value.int .u8)) ∧ w.grownBy wr (some g)) (fun _ _ i _ => 4 - (intOf i).toNat)
  case atStart => exact ⟨0, n, [], by omega, rfl, by go_num, by omega, rfl, rfl, by simpa using h, World.grownBy.refl _ _⟩
  case round =>
    clear h
    obtain ⟨j, q, ys, hj, rfl, rfl, hq, rfl, hle, hown, hgr⟩ := hrel
    have HL : Hid (le 4 n = ys ++ le (4 - j) q) := hle
    have hsz := hgr.size
    clear hle
    by_cases hlt : j < 4
    · go_wp2_with (at_builtin; refine wpList_append_fits _ rfl _ _ 22 rfl base 5 i0 1 Tryz.underlying22 hi hz1 g (k + j) cap _ rfl (hown.alloc _) ⟨wr.heap.size, 0, none⟩ 1 1 [.int .u8 ((q : Int) % 256)] rfl rfl (cell_one_new _ _ _) (one_u8 _) (by omega) ?_; intro w1 hown1 hgr1)
      have HW : Hid (w1.ownsRow base 5 1 (.slice (some ⟨g, 0, none⟩) (k + (j + 1)) cap) (k + (j + 1)) (xs ++ (ys ++ [((q % 256 : Nat) : Int)]).map (Value.int .u8)) ∧ w.grownBy w1 (some g)) := by
        refine ⟨?_, grownBy_trans hgr (grownBy_trans (World.grownBy_alloc _ _ _) hgr1)⟩
        have e : xs ++ (ys ++ [((q % 256 : Nat) : Int)]).map (Value.int .u8) = xs ++ ys.map (Value.int .u8) ++ [.int .u8 ((q : Int) % 256)] := by simp
        rw [e]
        exact hown1
      clear hown hown1 hgr hgr1
      go_wp2
      go_roundw
      case rel => exact ⟨j + 1, q / 256, ys ++ [((q % 256 : Nat) : Int)], by omega, by go_num, by go_num, by omega, rfl, by rw [HL.out]; exact le_step ys 4 j q hlt, HW.out.1, HW.out.2⟩
      case measure => simp [intOf]; omega
    · go_wp2
      go_ret
      have e : j = 4 := by omega
      subst e
      have h := HL.out
      rw [Nat.sub_self, le, List.append_nil] at h
      rw [h]
      exact ⟨rfl, hown, hgr⟩

set_option maxRecDepth 100000 in
theorem len64_8 (w : World) : Calls Tryz.prog 80 #[.int .u64 255] w fun e w' => e = .returned (.int .i64 8) ∧ w = w' := by
  go_enter Tryz.func80, Tryz.ntmps80
  go_wp2
  go_ret
  exact ⟨ret_int (by simp only [wrap64]; decide +kernel), rfl⟩
theorem width8 (w : World) : Calls Tryz.prog 82 #[] w fun e w' => e = .returned (.int .i64 1) ∧ w = w' := by
  have hx : IntKind.u64.wrap (bits BinOp.xor IntKind.u8 IntKind.u8.max 0) = 255 := by decide +kernel
  go_enter Tryz.func82, Tryz.ntmps82
  go_wp2_with fail
  refine (len64_8 _).mono ?_
  rintro e w' ⟨rfl, rfl⟩
  go_wp2
  go_ret
  exact ⟨rfl, rfl⟩

set_option maxRecDepth 100000 in
set_option maxHeartbeats 400000 in
theorem lay8_any (g base k cap n : Nat) (xs : List Value) (w : World) (h : w.ownsRow base 5 1 (.slice (some ⟨g, 0, none⟩) k cap) k xs) (hr : k + 1 ≤ cap) (_hcap : cap ≤ 140737488355328) (hn : n < 256) :
    Calls Tryz.prog 78 #[.slice (some ⟨g, 0, none⟩) k cap, .int .u8 n] w fun e w' => e = .returned (.slice (some ⟨g, 0, none⟩) (k + 1) cap) ∧ w'.ownsRow base 5 1 (.slice (some ⟨g, 0, none⟩) (k + 1) cap) (k + 1) (xs ++ (le 1 n).map (Value.int .u8)) ∧ w.grownBy w' (some g) := by
  obtain ⟨i0, hi, hz0, hz1, hz2⟩ := info_parts infoU8
  have hgl := h.lt g rfl
  go_enter Tryz.func78, Tryz.ntmps78
  go_wp2_with (go_at_call 82; refine (width8 _).mono ?_; rintro e w' ⟨rfl, rfl⟩)
  go_loopw [0, 5, 9] (fun v r i wr => ∃ (j q : Nat) (ys : List Int), j ≤ 1 ∧ i = .int .i64 j ∧ r = .int .u64 q ∧ q < 281474976710656 ∧ v = .slice (some ⟨g, 0, none⟩) (k + j) cap ∧ le 1 n = ys ++ le (1 - j) q ∧ wr.ownsRow base 5 1 (.slice (some ⟨g, 0, none⟩) (k + j) cap) (k + j) (xs ++ ys.map (Value.int .u8)) ∧ w.grownBy wr (some g)) (fun _ _ i _ => 1 - (intOf i).toNat)
  case atStart => exact ⟨0, n, [], by omega, rfl, by go_num, by omega, rfl, rfl, by simpa using h, World.grownBy.refl _ _⟩
  case round =>
    clear h
    obtain ⟨j, q, ys, hj, rfl, rfl, hq, rfl, hle, hown, hgr⟩ := hrel
    have HL : Hid (le 1 n = ys ++ le (1 - j) q) := hle
    have hsz := hgr.size
    clear hle
    by_cases hlt : j < 1
    · go_wp2_with (at_builtin; refine wpList_append_fits _ rfl _ _ 22 rfl base 5 i0 1 Tryz.underlying22 hi hz1 g (k + j) cap _ rfl (hown.alloc _) ⟨wr.heap.size, 0, none⟩ 1 1 [.int .u8 ((q : Int) % 256)] rfl rfl (cell_one_new _ _ _) (one_u8 _) (by omega) ?_; intro w1 hown1 hgr1)
      have HW : Hid (w1.ownsRow base 5 1 (.slice (some ⟨g, 0, none⟩) (k + (j + 1)) cap) (k + (j + 1)) (xs ++ (ys ++ [((q % 256 : Nat) : Int)]).map (Value.int .u8)) ∧ w.grownBy w1 (some g)) := by
        refine ⟨?_, grownBy_trans hgr (grownBy_trans (World.grownBy_alloc _ _ _) hgr1)⟩
        have e : xs ++ (ys ++ [((q % 256 : Nat) : Int)]).map (Value.int .u8) = xs ++ ys.map (Value.int .u8) ++ [.int .u8 ((q : Int) % 256)] := by simp
        rw [e]
        exact hown1
      clear hown hown1 hgr hgr1
      go_wp2
      go_roundw
      case rel => exact ⟨j + 1, q / 256, ys ++ [((q % 256 : Nat) : Int)], by omega, by go_num, by go_num, by omega, rfl, by rw [HL.out]; exact le_step ys 1 j q hlt, HW.out.1, HW.out.2⟩
      case measure => simp [intOf]; omega
    · go_wp2
      go_ret
      have e : j = 1 := by omega
      subst e
      have h := HL.out
      rw [Nat.sub_self, le, List.append_nil] at h
      rw [h]
      exact ⟨rfl, hown, hgr⟩

set_option maxRecDepth 100000 in
theorem len64_16 (w : World) : Calls Tryz.prog 80 #[.int .u64 65535] w fun e w' => e = .returned (.int .i64 16) ∧ w = w' := by
  go_enter Tryz.func80, Tryz.ntmps80
  go_wp2
  go_ret
  exact ⟨ret_int (by simp only [wrap64]; decide +kernel), rfl⟩
theorem width16 (w : World) : Calls Tryz.prog 90 #[] w fun e w' => e = .returned (.int .i64 2) ∧ w = w' := by
  have hx : IntKind.u64.wrap (bits BinOp.xor IntKind.u16 IntKind.u16.max 0) = 65535 := by decide +kernel
  go_enter Tryz.func90, Tryz.ntmps90
  go_wp2_with fail
  refine (len64_16 _).mono ?_
  rintro e w' ⟨rfl, rfl⟩
  go_wp2
  go_ret
  exact ⟨rfl, rfl⟩

set_option maxRecDepth 100000 in
set_option maxHeartbeats 400000 in
theorem lay16_any (g base k cap n : Nat) (xs : List Value) (w : World) (h : w.ownsRow base 5 1 (.slice (some ⟨g, 0, none⟩) k cap) k xs) (hr : k + 2 ≤ cap) (_hcap : cap ≤ 140737488355328) (hn : n < 65536) :
    Calls Tryz.prog 79 #[.slice (some ⟨g, 0, none⟩) k cap, .int .u16 n] w fun e w' => e = .returned (.slice (some ⟨g, 0, none⟩) (k + 2) cap) ∧ w'.ownsRow base 5 1 (.slice (some ⟨g, 0, none⟩) (k + 2) cap) (k + 2) (xs ++ (le 2 n).map (Value.int .u8)) ∧ w.grownBy w' (some g) := by
  obtain ⟨i0, hi, hz0, hz1, hz2⟩ := info_parts infoU8
  have hgl := h.lt g rfl
  go_enter Tryz.func79, Tryz.ntmps79
  go_wp2_with (go_at_call 90; refine (width16 _).mono ?_; rintro e w' ⟨rfl, rfl⟩)
  go_loopw [0, 5, 9] (fun v r i wr => ∃ (j q : Nat) (ys : List Int), j ≤ 2 ∧ i = .int .i64 j ∧ r = .int .u64 q ∧ q < 281474976710656 ∧ v = .slice (some ⟨g, 0, none⟩) (k + j) cap ∧ le 2 n = ys ++ le (2 - j) q ∧ wr.ownsRow base 5 1 (.slice (some ⟨g, 0, none⟩) (k + j) cap) (k + j) (xs ++ ys.map (Value.int .u8)) ∧ w.grownBy wr (some g)) (fun _ _ i _ => 2 - (intOf i).toNat)
  case atStart => exact ⟨0, n, [], by omega, rfl, by go_num, by omega, rfl, rfl, by simpa using h, World.grownBy.refl _ _⟩
  case round =>
    clear h
    obtain ⟨j, q, ys, hj, rfl, rfl, hq, rfl, hle, hown, hgr⟩ := hrel
    have HL : Hid (le 2 n = ys ++ le (2 - j) q) := hle
    have hsz := hgr.size
    clear hle
    by_cases hlt : j < 2
    · go_wp2_with (at_builtin; refine wpList_append_fits _ rfl _ _ 22 rfl base 5 i0 1 Tryz.underlying22 hi hz1 g (k + j) cap _ rfl (hown.alloc _) ⟨wr.heap.size, 0, none⟩ 1 1 [.int .u8 ((q : Int) % 256)] rfl rfl (cell_one_new _ _ _) (one_u8 _) (by omega) ?_; intro w1 hown1 hgr1)
      have HW : Hid (w1.ownsRow base 5 1 (.slice (some ⟨g, 0, none⟩) (k + (j + 1)) cap) (k + (j + 1)) (xs ++ (ys ++ [((q % 256 : Nat) : Int)]).map (Value.int .u8)) ∧ w.grownBy w1 (some g)) := by
        refine ⟨?_, grownBy_trans hgr (grownBy_trans (World.grownBy_alloc _ _ _) hgr1)⟩
        have e : xs ++ (ys ++ [((q % 256 : Nat) : Int)]).map (Value.int .u8) = xs ++ ys.map (Value.int .u8) ++ [.int .u8 ((q : Int) % 256)] := by simp
        rw [e]
        exact hown1
      clear hown hown1 hgr hgr1
      go_wp2
      go_roundw
      case rel => exact ⟨j + 1, q / 256, ys ++ [((q % 256 : Nat) : Int)], by omega, by go_num, by go_num, by omega, rfl, by rw [HL.out]; exact le_step ys 2 j q hlt, HW.out.1, HW.out.2⟩
      case measure => simp [intOf]; omega
    · go_wp2
      go_ret
      have e : j = 2 := by omega
      subst e
      have h := HL.out
      rw [Nat.sub_self, le, List.append_nil] at h
      rw [h]
      exact ⟨rfl, hown, hgr⟩

set_option maxRecDepth 100000 in
theorem len64_64 (w : World) : Calls Tryz.prog 80 #[.int .u64 18446744073709551615] w fun e w' => e = .returned (.int .i64 64) ∧ w = w' := by
  go_enter Tryz.func80, Tryz.ntmps80
  go_wp2
  go_ret
  exact ⟨ret_int (by simp only [wrap64]; decide +kernel), rfl⟩
theorem width64 (w : World) : Calls Tryz.prog 60 #[] w fun e w' => e = .returned (.int .i64 8) ∧ w = w' := by
  have hx : IntKind.u64.wrap (bits BinOp.xor IntKind.u64 IntKind.u64.max 0) = 18446744073709551615 := by decide +kernel
  go_enter Tryz.func60, Tryz.ntmps60
  go_wp2_with fail
  refine (len64_64 _).mono ?_
  rintro e w' ⟨rfl, rfl⟩
  go_wp2
  go_ret
  exact ⟨rfl, rfl⟩

set_option maxRecDepth 100000 in
set_option maxHeartbeats 400000 in
theorem lay64_any (g base k cap n : Nat) (xs : List Value) (w : World) (h : w.ownsRow base 5 1 (.slice (some ⟨g, 0, none⟩) k cap) k xs) (hr : k + 8 ≤ cap) (_hcap : cap ≤ 140737488355328) (hn : n < 281474976710656) :
    Calls Tryz.prog 43 #[.slice (some ⟨g, 0, none⟩) k cap, .int .u64 n] w fun e w' => e = .returned (.slice (some ⟨g, 0, none⟩) (k + 8) cap) ∧ w'.ownsRow base 5 1 (.slice (some ⟨g, 0, none⟩) (k + 8) cap) (k + 8) (xs ++ (le 8 n).map (Value.int .u8)) ∧ w.grownBy w' (some g) := by
  obtain ⟨i0, hi, hz0, hz1, hz2⟩ := info_parts infoU8
  have hgl := h.lt g rfl
  go_enter Tryz.func43, Tryz.ntmps43
  go_wp2_with (go_at_call 60; refine (width64 _).mono ?_; rintro e w' ⟨rfl, rfl⟩)
  go_loopw [0, 5, 8] (fun v r i wr => ∃ (j q : Nat) (ys : List Int), j ≤ 8 ∧ i = .int .i64 j ∧ r = .int .u64 q ∧ q < 281474976710656 ∧ v = .slice (some ⟨g, 0, none⟩) (k + j) cap ∧ le 8 n = ys ++ le (8 - j) q ∧ wr.ownsRow base 5 1 (.slice (some ⟨g, 0, none⟩) (k + j) cap) (k + j) (xs ++ ys.map (Value.int .u8)) ∧ w.grownBy wr (some g)) (fun _ _ i _ => 8 - (intOf i).toNat)
  case atStart => exact ⟨0, n, [], by omega, rfl, by go_num, by omega, rfl, rfl, by simpa using h, World.grownBy.refl _ _⟩
  case round =>
    clear h
    obtain ⟨j, q, ys, hj, rfl, rfl, hq, rfl, hle, hown, hgr⟩ := hrel
    have HL : Hid (le 8 n = ys ++ le (8 - j) q) := hle
    have hsz := hgr.size
    clear hle
    by_cases hlt : j < 8
    · go_wp2_with (at_builtin; refine wpList_append_fits _ rfl _ _ 22 rfl base 5 i0 1 Tryz.underlying22 hi hz1 g (k + j) cap _ rfl (hown.alloc _) ⟨wr.heap.size, 0, none⟩ 1 1 [.int .u8 ((q : Int) % 256)] rfl rfl (cell_one_new _ _ _) (one_u8 _) (by omega) ?_; intro w1 hown1 hgr1)
      have HW : Hid (w1.ownsRow base 5 1 (.slice (some ⟨g, 0, none⟩) (k + (j + 1)) cap) (k + (j + 1)) (xs ++ (ys ++ [((q % 256 : Nat) : Int)]).map (Value.int .u8)) ∧ w.grownBy w1 (some g)) := by
        refine ⟨?_, grownBy_trans hgr (grownBy_trans (World.grownBy_alloc _ _ _) hgr1)⟩
        have e : xs ++ (ys ++ [((q % 256 : Nat) : Int)]).map (Value.int .u8) = xs ++ ys.map (Value.int .u8) ++ [.int .u8 ((q : Int) % 256)] := by simp
        rw [e]
        exact hown1
      clear hown hown1 hgr hgr1
      go_wp2
      go_roundw
      case rel => exact ⟨j + 1, q / 256, ys ++ [((q % 256 : Nat) : Int)], by omega, by go_num, by go_num, by omega, rfl, by rw [HL.out]; exact le_step ys 8 j q hlt, HW.out.1, HW.out.2⟩
      case measure => simp [intOf]; omega
    · go_wp2
      go_ret
      have e : j = 8 := by omega
      subst e
      have h := HL.out
      rw [Nat.sub_self, le, List.append_nil] at h
      rw [h]
      exact ⟨rfl, hown, hgr⟩
end Go.Proofs.YtohmjfagbhnieaaGreatDoor

namespace Go.Proofs.YtohmjfagbhnieaaGreatDoor
open Go.RowKit

theorem own_empty (w : World) (e : TypeId) : (w.alloc (.cells #[] e)).ownsRow w.heap.size e 1 (.slice (some ⟨w.heap.size, 0, none⟩) 0 0) 0 [] := by
  have h := World.ownsRow_lit (base := w.heap.size) (e := e) (size := 1) w #[] 0 (Nat.le_refl _) (by simp) rfl
  simpa using h

set_option maxRecDepth 100000 in
set_option maxHeartbeats 400000 in
theorem put_any (v n : Nat) (w : World) (hv : v < 281474976710656) (hn : n ≤ 8) :
    Calls Tryz.prog 33 #[.int .i64 v, .int .i64 n] w fun e w' => ∃ v', e = .returned v' ∧ w'.ownsRow w.heap.size 5 1 v' n ((le n v).map (Value.int .u8)) ∧ Below w.heap.size w w' := by
  obtain ⟨i0, hi, hz0, hz1, hz2⟩ := info_parts infoU8
  have h0 := own_empty w 5
  have hb0 : Below w.heap.size w (w.alloc (.cells #[] 5)) := (Below.refl _ _).alloc (Nat.le_refl _) _
  go_enter Tryz.func33, Tryz.ntmps33
  go_wp2
  go_loopw [0, 5, 6] (fun x o i wr => ∃ (j q : Nat) (ys : List Int), j ≤ n ∧ i = .int .i64 j ∧ x = .int .i64 q ∧ q < 281474976710656 ∧ le n v = ys ++ le (n - j) q ∧ wr.ownsRow w.heap.size 5 1 o j (ys.map (Value.int .u8)) ∧ Below w.heap.size w wr) (fun _ _ i _ => n - (intOf i).toNat)
  case atStart => exact ⟨0, v, [], Nat.zero_le _, rfl, rfl, hv, rfl, by simpa using h0, hb0⟩
  case round =>
    clear h0 hb0
    obtain ⟨j, q, ys, hj, rfl, rfl, hq, hle, hown, hb⟩ := hrel
    have HL : Hid (le n v = ys ++ le (n - j) q) := hle
    clear hle
    have hsz := hb.size
    by_cases hlt : j < n
    · go_wp2_with (at_builtin; refine wpList_append_own _ rfl _ _ 22 rfl w.heap.size 5 i0 (.int .u8 0) 1 1 Tryz.underlying22 hi hz0 hz1 hz2 rfl (by decide) _ _ _ rfl (hown.alloc _) ⟨wr.heap.size, 0, none⟩ 1 1 [.int .u8 ((q : Int) % 256)] rfl rfl (cell_one_new _ _ _) (one_u8 _) (by unfold maxLen; omega) (by omega) (by simp; omega) ?_; intro v1 w1 hown1 hgr1 _)
      have HW : Hid (w1.ownsRow w.heap.size 5 1 v1 (j + 1) ((ys ++ [((q % 256 : Nat) : Int)]).map (Value.int .u8)) ∧ Below w.heap.size w w1) := by
        refine ⟨?_, (hb.alloc hsz _).grown hgr1 (by simp; omega) (fun k h => (hown.lt k h).1)⟩
        have e : (ys ++ [((q % 256 : Nat) : Int)]).map (Value.int .u8) = ys.map (Value.int .u8) ++ [.int .u8 ((q : Int) % 256)] := by simp
        rw [e]
        exact hown1
      clear hown hown1 hgr1 hb
      go_roundw
      case rel => exact ⟨j + 1, q / 256, ys ++ [((q % 256 : Nat) : Int)], by omega, by go_num, by go_num, by omega, by rw [HL.out]; exact le_step ys n j q hlt, HW.out.1, HW.out.2⟩
      case measure => simp [intOf]; omega
    · go_wp2
      go_ret
      have e : j = n := by omega
      subst e
      have h := HL.out
      rw [Nat.sub_self, le, List.append_nil] at h
      rw [h]
      exact ⟨_, rfl, hown, hb⟩

theorem put_pos (v n : Nat) (w : World) (hv : v < 281474976710656) (hn : n ≤ 8) (h0 : 0 < n) :
    Calls Tryz.prog 33 #[.int .i64 v, .int .i64 n] w fun e w' => ∃ g cp, e = .returned (.slice (some ⟨g, 0, none⟩) n cp) ∧ w'.ownsRow w.heap.size 5 1 (.slice (some ⟨g, 0, none⟩) n cp) n ((le n v).map (Value.int .u8)) ∧ Below w.heap.size w w' := by
  refine (put_any v n w hv hn).mono ?_
  rintro e w' ⟨v', rfl, ho, hb⟩
  rcases ho.2 with ⟨rfl, hn0⟩ | ⟨g, cap, cur, rfl, _⟩
  · omega
  · exact ⟨g, cap, rfl, ho, hb⟩
end Go.Proofs.YtohmjfagbhnieaaGreatDoor

namespace Go.Proofs.YtohmjfagbhnieaaGreatDoor
open Go.RowKit

theorem infoI64 : (Tryz.prog.info? 3).map (fun i => (i.zero, i.size, i.bytes)) = some (some (.int .i64 0), 1, 8) := by kernel_rfl

end Go.Proofs.YtohmjfagbhnieaaGreatDoor

namespace Go.Proofs.YtohmjfagbhnieaaGreatDoor
set_option linter.unusedVariables false
set_option linter.unusedSimpArgs false
open Go.RowKit

def ptrB (x n : Int) : Bool := decide (x = 0) || (decide (2 ≤ x) && decide (x < n))
end Go.Proofs.YtohmjfagbhnieaaGreatDoor
