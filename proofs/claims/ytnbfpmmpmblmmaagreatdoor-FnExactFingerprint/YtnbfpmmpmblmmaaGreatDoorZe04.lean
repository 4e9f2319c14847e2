/- A number laid down at the end of bytes that are owned and have room: lay at its four widths. The program's reader of bytes: take, number, zeros, end, at a reader that lies in a block of its own. -/
import Derived.Test.YtnbfpmmpmblmmaaGreatDoorZe03
import Derived.WalkSpells
import Derived.Deep.RegionHeld
import Derived.Deep.RegionWith
import Derived.BigQuiet
import Derived.Deep.QuietTactic
namespace Go.Proofs.YtnbfpmmpmblmmaaGreatDoor
open Go.RowKit

/-- The m lowest bytes of n, the lowest first. -/
def le : Nat → Nat → List Int
  | 0, _ => []
  | m + 1, n => ((n % 256 : Nat) : Int) :: le m (n / 256)
theorem le_len : ∀ m n, (le m n).length = m
  | 0, _ => rfl
  | m + 1, n => by simp [le, le_len m]
theorem le_step (ys : List Int) (m j q : Nat) (h : j < m) : ys ++ le (m - j) q = ys ++ [((q % 256 : Nat) : Int)] ++ le (m - (j + 1)) (q / 256) := by
  have e : m - j = (m - (j + 1)) + 1 := by omega
  rw [e, le]
  simp
theorem one_u8 (z : Int) : ∀ u ∈ [Value.int .u8 z], u.oneCell' = true := by
  intro u hu
  rw [List.mem_singleton] at hu
  subst hu
  rfl

set_option maxRecDepth 100000 in
theorem len64_32 (w : World) : Calls Tryz.prog 101 #[.int .u64 4294967295] w fun e w' => e = .returned (.int .i64 32) ∧ w = w' := by
  go_enter Tryz.func101, Tryz.ntmps101
  go_wp2
  go_ret
  exact ⟨ret_int (by simp only [wrap64]; decide +kernel), rfl⟩
theorem width32 (w : World) : Calls Tryz.prog 84 #[] w fun e w' => e = .returned (.int .i64 4) ∧ w = w' := by
  have hx : IntKind.u64.wrap (bits BinOp.xor IntKind.u32 IntKind.u32.max 0) = 4294967295 := by decide +kernel
  go_enter Tryz.func84, Tryz.ntmps84
  go_wp2_with fail
  refine (len64_32 _).mono ?_
  rintro e w' ⟨rfl, rfl⟩
  go_wp2
  go_ret
  exact ⟨rfl, rfl⟩

set_option maxRecDepth 100000 in
set_option maxHeartbeats 400000 in
theorem lay32_any (g base k cap n : Nat) (xs : List Value) (w : World) (h : w.ownsRow base 5 1 (.slice (some ⟨g, 0, none⟩) k cap) k xs) (hr : k + 4 ≤ cap) (_hcap : cap ≤ 140737488355328) (hn : n < 4294967296) :
    Calls Tryz.prog 61 #[.slice (some ⟨g, 0, none⟩) k cap, .int .u32 n] w fun e w' => e = .returned (.slice (some ⟨g, 0, none⟩) (k + 4) cap) ∧ w'.ownsRow base 5 1 (.slice (some ⟨g, 0, none⟩) (k + 4) cap) (k + 4) (xs ++ (le 4 n).map (Value.int .u8)) ∧ w.grownBy w' (some g) := by
  obtain ⟨i0, hi, hz0, hz1, hz2⟩ := info_parts infoU8
  have hgl := h.lt g rfl
  go_enter Tryz.func61, Tryz.ntmps61
  go_wp2_with (go_at_call 84; refine (width32 _).mono ?_; rintro e w' ⟨rfl, rfl⟩)
  go_loopw [0, 5, 9] (fun v r i wr => ∃ (j q : Nat) (ys : List Int), j ≤ 4 ∧ i = .int .i64 j ∧ r = .int .u64 q ∧ q < 281474976710656 ∧ v = .slice (some ⟨g, 0, none⟩) (k + j) cap ∧ le 4 n = ys ++ le (4 - j) q ∧ wr.ownsRow base 5 1 (.slice (some ⟨g, 0, none⟩) (k + j) cap) (k + j) (xs ++ ys.map (Value.int .u8)) ∧ w.grownBy wr (some g)) (fun _ _ i _ => 4 - (intOf i).toNat)
  case atStart => exact ⟨0, n, [], by omega, rfl, by go_num, by omega, rfl, rfl, by simpa using h, World.grownBy.refl _ _⟩
  case round =>
    clear h
    obtain ⟨j, q, ys, hj, rfl, rfl, hq, rfl, hle, hown, hgr⟩ := hrel
    have HL : Hid (le 4 n = ys ++ le (4 - j) q) := hle
    have hsz := hgr.size
    clear hle
    by_cases hlt : j < 4
    · go_wp2_with (at_builtin; refine wpList_append_fits _ rfl _ _ 48 rfl base 5 i0 1 Tryz.underlying48 hi hz1 g (k + j) cap _ rfl (hown.alloc _) ⟨wr.heap.size, 0, none⟩ 1 1 [.int .u8 ((q : Int) % 256)] rfl rfl (cell_one_new _ _ _) (one_u8 _) (by omega) ?_; intro w1 hown1 hgr1)
      have HW : Hid (w1.ownsRow base 5 1 (.slice (some ⟨g, 0, none⟩) (k + (j + 1)) cap) (k + (j + 1)) (xs ++ (ys ++ [((q % 256 : Nat) : Int)]).map (Value.int .u8)) ∧ w.grownBy w1 (some g)) := by
        refine ⟨?_, grownBy_trans hgr (grownBy_trans (World.grownBy_alloc _ _ _) hgr1)⟩
        have e : xs ++ (ys ++ [((q % 256 : Nat) : Int)]).map (Value.int .u8) = xs ++ ys.map (Value.int .u8) ++ [.int .u8 ((q : Int) % 256)] := by simp
        rw [e]
        exact hown1
      clear hown hown1 hgr hgr1
      go_wp2
      go_roundw
      case rel => exact ⟨j + 1, q / 256, ys ++ [((q % 256 : Nat) : Int)], by omega, by go_num, by go_num, by omega, rfl, by rw [HL.out]; exact le_step ys 4 j q hlt, HW.out.1, HW.out.2⟩
      case measure => simp [intOf]; omega
    · go_wp2
      go_ret
      have e : j = 4 := by omega
      subst e
      have h := HL.out
      rw [Nat.sub_self, le, List.append_nil] at h
      rw [h]
      exact ⟨rfl, hown, hgr⟩

set_option maxRecDepth 100000 in
theorem len64_8 (w : World) : Calls Tryz.prog 101 #[.int .u64 255] w fun e w' => e = .returned (.int .i64 8) ∧ w = w' := by
  go_enter Tryz.func101, Tryz.ntmps101
  go_wp2
  go_ret
  exact ⟨ret_int (by simp only [wrap64]; decide +kernel), rfl⟩
theorem width8 (w : World) : Calls Tryz.prog 82 #[] w fun e w' => e = .returned (.int .i64 1) ∧ w = w' := by
  have hx : IntKind.u64.wrap (bits BinOp.xor IntKind.u8 IntKind.u8.max 0) = 255 := by decide +kernel
  go_enter Tryz.func82, Tryz.ntmps82
  go_wp2_with fail
  refine (len64_8 _).mono ?_
  rintro e w' ⟨rfl, rfl⟩
  go_wp2
  go_ret
  exact ⟨rfl, rfl⟩

set_option maxRecDepth 100000 in
set_option maxHeartbeats 400000 in
theorem lay8_any (g base k cap n : Nat) (xs : List Value) (w : World) (h : w.ownsRow base 5 1 (.slice (some ⟨g, 0, none⟩) k cap) k xs) (hr : k + 1 ≤ cap) (_hcap : cap ≤ 140737488355328) (hn : n < 256) :
    Calls Tryz.prog 58 #[.slice (some ⟨g, 0, none⟩) k cap, .int .u8 n] w fun e w' => e = .returned (.slice (some ⟨g, 0, none⟩) (k + 1) cap) ∧ w'.ownsRow base 5 1 (.slice (some ⟨g, 0, none⟩) (k + 1) cap) (k + 1) (xs ++ (le 1 n).map (Value.int .u8)) ∧ w.grownBy w' (some g) := by
  obtain ⟨i0, hi, hz0, hz1, hz2⟩ := info_parts infoU8
  have hgl := h.lt g rfl
  go_enter Tryz.func58, Tryz.ntmps58
  go_wp2_with (go_at_call 82; refine (width8 _).mono ?_; rintro e w' ⟨rfl, rfl⟩)
  go_loopw [0, 5, 9] (fun v r i wr => ∃ (j q : Nat) (ys : List Int), j ≤ 1 ∧ i = .int .i64 j ∧ r = .int .u64 q ∧ q < 281474976710656 ∧ v = .slice (some ⟨g, 0, none⟩) (k + j) cap ∧ le 1 n = ys ++ le (1 - j) q ∧ wr.ownsRow base 5 1 (.slice (some ⟨g, 0, none⟩) (k + j) cap) (k + j) (xs ++ ys.map (Value.int .u8)) ∧ w.grownBy wr (some g)) (fun _ _ i _ => 1 - (intOf i).toNat)
  case atStart => exact ⟨0, n, [], by omega, rfl, by go_num, by omega, rfl, rfl, by simpa using h, World.grownBy.refl _ _⟩
  case round =>
    clear h
    obtain ⟨j, q, ys, hj, rfl, rfl, hq, rfl, hle, hown, hgr⟩ := hrel
    have HL : Hid (le 1 n = ys ++ le (1 - j) q) := hle
    have hsz := hgr.size
    clear hle
    by_cases hlt : j < 1
    · go_wp2_with (at_builtin; refine wpList_append_fits _ rfl _ _ 48 rfl base 5 i0 1 Tryz.underlying48 hi hz1 g (k + j) cap _ rfl (hown.alloc _) ⟨wr.heap.size, 0, none⟩ 1 1 [.int .u8 ((q : Int) % 256)] rfl rfl (cell_one_new _ _ _) (one_u8 _) (by omega) ?_; intro w1 hown1 hgr1)
      have HW : Hid (w1.ownsRow base 5 1 (.slice (some ⟨g, 0, none⟩) (k + (j + 1)) cap) (k + (j + 1)) (xs ++ (ys ++ [((q % 256 : Nat) : Int)]).map (Value.int .u8)) ∧ w.grownBy w1 (some g)) := by
        refine ⟨?_, grownBy_trans hgr (grownBy_trans (World.grownBy_alloc _ _ _) hgr1)⟩
        have e : xs ++ (ys ++ [((q % 256 : Nat) : Int)]).map (Value.int .u8) = xs ++ ys.map (Value.int .u8) ++ [.int .u8 ((q : Int) % 256)] := by simp
        rw [e]
        exact hown1
      clear hown hown1 hgr hgr1
      go_wp2
      go_roundw
      case rel => exact ⟨j + 1, q / 256, ys ++ [((q % 256 : Nat) : Int)], by omega, by go_num, by go_num, by omega, rfl, by rw [HL.out]; exact le_step ys 1 j q hlt, HW.out.1, HW.out.2⟩
      case measure => simp [intOf]; omega
    · go_wp2
      go_ret
      have e : j = 1 := by omega
      subst e
      have h := HL.out
      rw [Nat.sub_self, le, List.append_nil] at h
      rw [h]
      exact ⟨rfl, hown, hgr⟩

set_option maxRecDepth 100000 in
theorem len64_16 (w : World) : Calls Tryz.prog 101 #[.int .u64 65535] w fun e w' => e = .returned (.int .i64 16) ∧ w = w' := by
  go_enter Tryz.func101, Tryz.ntmps101
  go_wp2
  go_ret
  exact ⟨ret_int (by simp only [wrap64]; decide +kernel), rfl⟩
theorem width16 (w : World) : Calls Tryz.prog 83 #[] w fun e w' => e = .returned (.int .i64 2) ∧ w = w' := by
  have hx : IntKind.u64.wrap (bits BinOp.xor IntKind.u16 IntKind.u16.max 0) = 65535 := by decide +kernel
  go_enter Tryz.func83, Tryz.ntmps83
  go_wp2_with fail
  refine (len64_16 _).mono ?_
  rintro e w' ⟨rfl, rfl⟩
  go_wp2
  go_ret
  exact ⟨rfl, rfl⟩

set_option maxRecDepth 100000 in
set_option maxHeartbeats 400000 in
theorem lay16_any (g base k cap n : Nat) (xs : List Value) (w : World) (h : w.ownsRow base 5 1 (.slice (some ⟨g, 0, none⟩) k cap) k xs) (hr : k + 2 ≤ cap) (_hcap : cap ≤ 140737488355328) (hn : n < 65536) :
    Calls Tryz.prog 60 #[.slice (some ⟨g, 0, none⟩) k cap, .int .u16 n] w fun e w' => e = .returned (.slice (some ⟨g, 0, none⟩) (k + 2) cap) ∧ w'.ownsRow base 5 1 (.slice (some ⟨g, 0, none⟩) (k + 2) cap) (k + 2) (xs ++ (le 2 n).map (Value.int .u8)) ∧ w.grownBy w' (some g) := by
  obtain ⟨i0, hi, hz0, hz1, hz2⟩ := info_parts infoU8
  have hgl := h.lt g rfl
  go_enter Tryz.func60, Tryz.ntmps60
  go_wp2_with (go_at_call 83; refine (width16 _).mono ?_; rintro e w' ⟨rfl, rfl⟩)
  go_loopw [0, 5, 9] (fun v r i wr => ∃ (j q : Nat) (ys : List Int), j ≤ 2 ∧ i = .int .i64 j ∧ r = .int .u64 q ∧ q < 281474976710656 ∧ v = .slice (some ⟨g, 0, none⟩) (k + j) cap ∧ le 2 n = ys ++ le (2 - j) q ∧ wr.ownsRow base 5 1 (.slice (some ⟨g, 0, none⟩) (k + j) cap) (k + j) (xs ++ ys.map (Value.int .u8)) ∧ w.grownBy wr (some g)) (fun _ _ i _ => 2 - (intOf i).toNat)
  case atStart => exact ⟨0, n, [], by omega, rfl, by go_num, by omega, rfl, rfl, by simpa using h, World.grownBy.refl _ _⟩
  case round =>
    clear h
    obtain ⟨j, q, ys, hj, rfl, rfl, hq, rfl, hle, hown, hgr⟩ := hrel
    have HL : Hid (le 2 n = ys ++ le (2 - j) q) := hle
    have hsz := hgr.size
    clear hle
    by_cases hlt : j < 2
    · go_wp2_with (at_builtin; refine wpList_append_fits _ rfl _ _ 48 rfl base 5 i0 1 Tryz.underlying48 hi hz1 g (k + j) cap _ rfl (hown.alloc _) ⟨wr.heap.size, 0, none⟩ 1 1 [.int .u8 ((q : Int) % 256)] rfl rfl (cell_one_new _ _ _) (one_u8 _) (by omega) ?_; intro w1 hown1 hgr1)
      have HW : Hid (w1.ownsRow base 5 1 (.slice (some ⟨g, 0, none⟩) (k + (j + 1)) cap) (k + (j + 1)) (xs ++ (ys ++ [((q % 256 : Nat) : Int)]).map (Value.int .u8)) ∧ w.grownBy w1 (some g)) := by
        refine ⟨?_, grownBy_trans hgr (grownBy_trans (World.grownBy_alloc _ _ _) hgr1)⟩
        have e : xs ++ (ys ++ [((q % 256 : Nat) : Int)]).map (Value.int .u8) = xs ++ ys.map (Value.int .u8) ++ [.int .u8 ((q : Int) % 256)] := by simp
        rw [e]
        exact hown1
      clear hown hown1 hgr hgr1
      go_wp2
      go_roundw
      case rel => exact ⟨j + 1, q / 256, ys ++ [((q % 256 : Nat) : Int)], by omega, by go_num, by go_num, by omega, rfl, by rw [HL.out]; exact le_step ys 2 j q hlt, HW.out.1, HW.out.2⟩
      case measure => simp [intOf]; omega
    · go_wp2
      go_ret
      have e : j = 2 := by omega
      subst e
      have h := HL.out
      rw [Nat.sub_self, le, List.append_nil] at h
      rw [h]
      exact ⟨rfl, hown, hgr⟩

set_option maxRecDepth 100000 in
theorem len64_64 (w : World) : Calls Tryz.prog 101 #[.int .u64 18446744073709551615] w fun e w' => e = .returned (.int .i64 64) ∧ w = w' := by
  go_enter Tryz.func101, Tryz.ntmps101
  go_wp2
  go_ret
  exact ⟨ret_int (by simp only [wrap64]; decide +kernel), rfl⟩
theorem width64 (w : World) : Calls Tryz.prog 85 #[] w fun e w' => e = .returned (.int .i64 8) ∧ w = w' := by
  have hx : IntKind.u64.wrap (bits BinOp.xor IntKind.u64 IntKind.u64.max 0) = 18446744073709551615 := by decide +kernel
  go_enter Tryz.func85, Tryz.ntmps85
  go_wp2_with fail
  refine (len64_64 _).mono ?_
  rintro e w' ⟨rfl, rfl⟩
  go_wp2
  go_ret
  exact ⟨rfl, rfl⟩

set_option maxRecDepth 100000 in
set_option maxHeartbeats 400000 in
theorem lay64_any (g base k cap n : Nat) (xs : List Value) (w : World) (h : w.ownsRow base 5 1 (.slice (some ⟨g, 0, none⟩) k cap) k xs) (hr : k + 8 ≤ cap) (_hcap : cap ≤ 140737488355328) (hn : n < 281474976710656) :
    Calls Tryz.prog 62 #[.slice (some ⟨g, 0, none⟩) k cap, .int .u64 n] w fun e w' => e = .returned (.slice (some ⟨g, 0, none⟩) (k + 8) cap) ∧ w'.ownsRow base 5 1 (.slice (some ⟨g, 0, none⟩) (k + 8) cap) (k + 8) (xs ++ (le 8 n).map (Value.int .u8)) ∧ w.grownBy w' (some g) := by
  obtain ⟨i0, hi, hz0, hz1, hz2⟩ := info_parts infoU8
  have hgl := h.lt g rfl
  go_enter Tryz.func62, Tryz.ntmps62
  go_wp2_with (go_at_call 85; refine (width64 _).mono ?_; rintro e w' ⟨rfl, rfl⟩)
  go_loopw [0, 5, 8] (fun v r i wr => ∃ (j q : Nat) (ys : List Int), j ≤ 8 ∧ i = .int .i64 j ∧ r = .int .u64 q ∧ q < 281474976710656 ∧ v = .slice (some ⟨g, 0, none⟩) (k + j) cap ∧ le 8 n = ys ++ le (8 - j) q ∧ wr.ownsRow base 5 1 (.slice (some ⟨g, 0, none⟩) (k + j) cap) (k + j) (xs ++ ys.map (Value.int .u8)) ∧ w.grownBy wr (some g)) (fun _ _ i _ => 8 - (intOf i).toNat)
  case atStart => exact ⟨0, n, [], by omega, rfl, by go_num, by omega, rfl, rfl, by simpa using h, World.grownBy.refl _ _⟩
  case round =>
    clear h
    obtain ⟨j, q, ys, hj, rfl, rfl, hq, rfl, hle, hown, hgr⟩ := hrel
    have HL : Hid (le 8 n = ys ++ le (8 - j) q) := hle
    have hsz := hgr.size
    clear hle
    by_cases hlt : j < 8
    · go_wp2_with (at_builtin; refine wpList_append_fits _ rfl _ _ 48 rfl base 5 i0 1 Tryz.underlying48 hi hz1 g (k + j) cap _ rfl (hown.alloc _) ⟨wr.heap.size, 0, none⟩ 1 1 [.int .u8 ((q : Int) % 256)] rfl rfl (cell_one_new _ _ _) (one_u8 _) (by omega) ?_; intro w1 hown1 hgr1)
      have HW : Hid (w1.ownsRow base 5 1 (.slice (some ⟨g, 0, none⟩) (k + (j + 1)) cap) (k + (j + 1)) (xs ++ (ys ++ [((q % 256 : Nat) : Int)]).map (Value.int .u8)) ∧ w.grownBy w1 (some g)) := by
        refine ⟨?_, grownBy_trans hgr (grownBy_trans (World.grownBy_alloc _ _ _) hgr1)⟩
        have e : xs ++ (ys ++ [((q % 256 : Nat) : Int)]).map (Value.int .u8) = xs ++ ys.map (Value.int .u8) ++ [.int .u8 ((q : Int) % 256)] := by simp
        rw [e]
        exact hown1
      clear hown hown1 hgr hgr1
      go_wp2
      go_roundw
      case rel => exact ⟨j + 1, q / 256, ys ++ [((q % 256 : Nat) : Int)], by omega, by go_num, by go_num, by omega, rfl, by rw [HL.out]; exact le_step ys 8 j q hlt, HW.out.1, HW.out.2⟩
      case measure => simp [intOf]; omega
    · go_wp2
      go_ret
      have e : j = 8 := by omega
      subst e
      have h := HL.out
      rw [Nat.sub_self, le, List.append_nil] at h
      rw [h]
      exact ⟨rfl, hown, hgr⟩
end Go.Proofs.YtnbfpmmpmblmmaaGreatDoor

namespace Go.Proofs.YtnbfpmmpmblmmaaGreatDoor
open Go.RowKit

/-- A reader at block b (made in the world w0, of which b is the first new block): its check; what it reads, a slice that was there before it; how far it is. -/
structure Rdr (w0 w : World) (b lo : Nat) (ok : Bool) (dv : Value) (zs : List Int) (pos : Nat) : Prop where
  ck : Ck w b lo 21 ok
  data : w.cell? ⟨b, 2, none⟩ = some dv
  at_ : w.cell? ⟨b, 3, none⟩ = some (.int .i64 pos)
  fr : w.frozen? ⟨b, 3, none⟩ = false
  old : Below b w0 w
  size : w0.heap.size = b
  rd : Rd .u8 w0 dv zs
  le : pos ≤ zs.length
  lo1 : b < lo
  lo2 : lo ≤ w.heap.size

theorem Rdr.read {w0 w : World} {b lo : Nat} {ok : Bool} {dv : Value} {zs : List Int} {pos : Nat} (h : Rdr w0 w b lo ok dv zs pos) : Rd .u8 w dv zs :=
  h.rd.below (by rw [h.size]; exact h.old)
theorem Rdr.tch {w0 w w' : World} {b lo : Nat} {ok ok' : Bool} {dv : Value} {zs : List Int} {pos : Nat} (h : Rdr w0 w b lo ok dv zs pos) (hc : Ck w' b lo 21 ok') (ht : Tch b w w') : Rdr w0 w' b lo ok' dv zs pos :=
  ⟨hc, (ht.2.1 2 (by omega)).trans h.data, (ht.2.1 3 (by omega)).trans h.at_, (ht.2.2 3).trans h.fr, ht.under h.old (Nat.le_refl _) (Nat.le_of_lt h.ck.lt), h.size, h.rd, h.le, h.lo1, Nat.le_trans h.lo2 ht.1.size⟩
theorem Rdr.lift {w0 w : World} {b lo : Nat} {ok : Bool} {dv : Value} {zs : List Int} {pos : Nat} (h : Rdr w0 w b lo ok dv zs pos) {v : Value} {xs : List Int} (hx : Rd .u8 w0 v xs) : Rd .u8 w v xs :=
  hx.below (by rw [h.size]; exact h.old)
/-- What take leaves: the bytes asked for and a reader that much further; or nothing and a fault. -/
def Took (w0 w w' : World) (b lo : Nat) (ok : Bool) (dv : Value) (zs : List Int) (pos : Nat) (n : Int) (sv : Value) : Prop :=
  w.grownBy w' (some b) ∧
    ((ok = true ∧ 0 ≤ n ∧ (pos : Int) + n ≤ zs.length ∧ Rd .u8 w0 sv ((zs.drop pos).take n.toNat) ∧ Rdr w0 w' b lo true dv zs (pos + n.toNat)) ∨
     (¬ (ok = true ∧ 0 ≤ n ∧ (pos : Int) + n ≤ zs.length) ∧ sv = .slice none 0 0 ∧ Rdr w0 w' b lo false dv zs pos))
theorem Rdr.moved {w0 w1 : World} {b lo : Nat} {dv : Value} {zs : List Int} {pos : Nat} (h : Rdr w0 w1 b lo true dv zs pos) (p nq : Nat) (hp : p ≤ zs.length) (v : Value) (hv : v = .int .i64 p) : Rdr w0 ((w1.setCell ⟨b, 3, none⟩ v).drewN nq) b lo true dv zs p := by
  subst hv
  have ho : ∀ o, o ≠ 3 → (⟨b, 3, none⟩ : Addr) ≠ ⟨b, o, none⟩ := fun o ho e => by injection e with e1 e2; omega
  obtain ⟨c1, c2, ev, c3, c4⟩ := h.ck
  refine ⟨⟨?_, ?_, ev, ?_, ?_⟩, ?_, ?_, ?_, ?_, h.size, h.rd, hp, h.lo1, ?_⟩
  · exact (World.cell?_setCell_other w1 ⟨b, 3, none⟩ ⟨b, 0, none⟩ _ (ho 0 (by omega))).trans c1
  · have := c2; simpa using this
  · exact (World.cell?_setCell_other w1 ⟨b, 3, none⟩ ⟨b, 1, none⟩ _ (ho 1 (by omega))).trans c3
  · rcases c4 with c4 | ⟨c4, _⟩
    · exact .inl c4
    · cases c4
  · exact (World.cell?_setCell_other w1 ⟨b, 3, none⟩ ⟨b, 2, none⟩ _ (ho 2 (by omega))).trans h.data
  · exact World.cell?_setCell_same w1 ⟨b, 3, none⟩ _ h.at_
  · have := h.fr; simpa using this
  · exact below_drewN (h.old.setCell (Nat.le_refl _) _) nq
  · have := h.lo2; simpa using this

set_option maxRecDepth 100000 in
set_option maxHeartbeats 1000000 in
theorem take_any (w0 w : World) (b lo : Nat) (ok : Bool) (dv : Value) (zs : List Int) (pos n : Nat) (h : Rdr w0 w b lo ok dv zs pos) (hn0 : 0 < n) (hn : n ≤ 4294967296) (hz : zs.length ≤ 140737488355328) :
    Calls Tryz.prog 96 #[.pointer (some ⟨b, 0, none⟩), .int .i64 n] w fun e w' => ∃ sv, e = .returned sv ∧ Took w0 w w' b lo ok dv zs pos n sv := by
  have hd := h.data
  have ha := h.at_
  have hl := h.le
  have hlt := h.ck.lt
  by_cases hfit : n ≤ zs.length - pos
  · obtain ⟨bd, off, cap, rfl, hbd, hcl, hcm, hcell⟩ := h.read.partsC (by omega)
    have HP := hide (And.intro hcell hbd)
    have H := hide h
    unfold maxLen at hcm
    clear h hcell
    have HQ := hide (show decide ((n : Int) ≤ IntKind.i64.wrap ((zs.length : Int) - (pos : Int))) = true from by rw [IntKind.wrap_i64]; simp; omega)
    go_enter Tryz.func96, Tryz.ntmps96
    go_wp2
    go_region_held (fun w' => w'.cell? ⟨b, 2, none⟩ = some (.slice (some ⟨bd, off, none⟩) zs.length cap) ∧ w'.cell? ⟨b, 3, none⟩ = some (.int .i64 pos)) (go_keep) ((go_at_call 47; refine (need_any b lo _ 21 ok (decide ((n : Int) ≤ IntKind.i64.wrap ((zs.length : Int) - (pos : Int)))) _ (H.out.ck.below ((Below.refl _ _).drew)) H.out.lo1 H.out.lo2).mono ?_; rintro e w1 ⟨rfl, hc1, ht1⟩; have hd1 := (ht1.2.1 2 (by omega)).trans hd; have ha1 := (ht1.2.1 3 (by omega)).trans ha))
    rw [HQ.out, Bool.and_true] at hc1
    have ht1' : Tch b w w1 := (Tch.of_below hlt ((Below.refl _ _).drew)).trans ht1
    have R1 := hide (H.out.tch hc1 ht1')
    have G1 := hide ht1'.1
    have hf1 := R1.out.fr
    obtain ⟨c1, c2, ev, c3, c4⟩ := hc1
    clear ht1 ht1'
    rcases c4 with ⟨rfl, rfl⟩ | ⟨rfl, m, c4⟩
    · have k2 : (w1.setCell ⟨b, 3, none⟩ (.int .i64 ((pos : Int) + (n : Int)))).cell? ⟨b, 2, none⟩ = some (.slice (some ⟨bd, off, none⟩) zs.length cap) := by
        rw [World.cell?_setCell_other _ _ _ _ (by intro e; injection e with e1 e2; omega)]; exact hd1
      have k3 : (w1.setCell ⟨b, 3, none⟩ (.int .i64 ((pos : Int) + (n : Int)))).cell? ⟨b, 3, none⟩ = some (.int .i64 ((pos : Int) + (n : Int))) := World.cell?_setCell_same _ _ _ ha1
      go_wp2
      go_quiet (fail)
      go_wp2
      go_ret
      refine ⟨_, rfl, ?_, .inl ⟨rfl, by omega, by omega, ?_, ?_⟩⟩
      · exact ⟨G1.out.os, G1.out.tape, G1.out.output, by simpa using G1.out.size, fun k hk hne => (Below.heap_setCell w1 ⟨b, 3, none⟩ _ k (fun e => hne (by rw [e]))).trans (G1.out.block k hk hne)⟩
      · rw [Int.toNat_natCast]
        have hc := Rd.cut2 pos (pos + n - pos) R1.out.rd (by omega) (by omega)
        have e2 : (zs.drop pos).take (pos + n - pos) = (zs.drop pos).take n := by rw [show pos + n - pos = n from by omega]
        rw [e2] at hc
        exact hc
      · rw [Int.toNat_natCast]
        exact R1.out.moved (pos + n) nq (by omega) _ (by go_num)
    · obtain ⟨t', x', rfl⟩ := c4.iface
      clear c4
      go_wp2
      go_ret
      exact ⟨_, rfl, G1.out, .inr ⟨fun h => (by cases h.1), rfl, R1.out⟩⟩
  · obtain ⟨a, cap, rfl⟩ : ∃ a cap, dv = .slice a zs.length cap := by obtain ⟨a, cap, h1, _⟩ := h.rd; exact ⟨a, cap, h1⟩
    have H := hide h
    clear h
    have HQ := hide (show decide ((n : Int) ≤ IntKind.i64.wrap ((zs.length : Int) - (pos : Int))) = false from by rw [IntKind.wrap_i64]; simp; omega)
    go_enter Tryz.func96, Tryz.ntmps96
    go_wp2
    go_region_held (fun w' => w'.cell? ⟨b, 2, none⟩ = some (.slice a zs.length cap) ∧ w'.cell? ⟨b, 3, none⟩ = some (.int .i64 pos)) (go_keep) ((go_at_call 47; refine (need_any b lo _ 21 ok (decide ((n : Int) ≤ IntKind.i64.wrap ((zs.length : Int) - (pos : Int)))) _ (H.out.ck.below ((Below.refl _ _).drew)) H.out.lo1 H.out.lo2).mono ?_; rintro e w1 ⟨rfl, hc1, ht1⟩; have hd1 := (ht1.2.1 2 (by omega)).trans hd; have ha1 := (ht1.2.1 3 (by omega)).trans ha))
    rw [HQ.out, Bool.and_false] at hc1
    have ht1' : Tch b w w1 := (Tch.of_below hlt ((Below.refl _ _).drew)).trans ht1
    have R1 := hide (H.out.tch hc1 ht1')
    have G1 := hide ht1'.1
    obtain ⟨c1, c2, ev, c3, c4⟩ := hc1
    clear ht1 ht1'
    rcases c4 with ⟨c4, _⟩ | ⟨_, m, c4⟩
    · cases c4
    · obtain ⟨t', x', rfl⟩ := c4.iface
      clear c4
      go_wp2
      go_ret
      exact ⟨_, rfl, G1.out, .inr ⟨fun h => (by omega), rfl, R1.out⟩⟩

end Go.Proofs.YtnbfpmmpmblmmaaGreatDoor
