/- The walks of the two sums: the model's by its table, the program's by eight steps a byte. A block with its sum: laySum of the program, l02Sealed of the model. The program lays a snapshot down: layLetters, laySnap. The program lays a snapshot down: laySnap. EncodeSnap of the program. EncodeSnap of the model: refusals. The mark that a conversion puts behind a row: what it keeps. -/
import Derived.Test.YtnbfpmmpmblmmaaGreatDoorRows
import Derived.Test.YtnbfpmmpmblmmaaGreatDoorZe01
import Derived.Test.YtnbfpmmpmblmmaaGreatDoorZe13
import Derived.WalkLawsBesides
import Derived.Test.YtnbfpmmpmblmmaaGreatDoorZe12
import Derived.Deep.RegionHeld3
import Derived.Room.AppendFits
import Derived.Test.YtnbfpmmpmblmmaaGreatDoorZe07
namespace Go.Proofs.YtnbfpmmpmblmmaaGreatDoor
open Go.RowKit

theorem xor_half (y : Nat) (hy : y < 4294967296) : bits .xor .u32 ((y : Int) / 2) 3988292384 = ((y / 2 ^^^ 3988292384 : Nat) : Int) := by
  have h := u32_xor_nat (y / 2) 3988292384 (by omega) (by omega)
  simpa using h
theorem step_one (y k : Nat) (hk : k < 8) (h : ((y : Int) % 2 == 1) = true) : Crc.rep (8 - (k + 1)) (y / 2 ^^^ 3988292384) = Crc.rep (8 - k) y := by
  have e : 8 - k = (8 - (k + 1)) + 1 := by omega
  have hm : y % 2 = 1 := by simp at h; omega
  rw [e]
  show _ = Crc.rep (8 - (k + 1)) (Crc.stp y)
  rw [Crc.stp, if_pos hm]
theorem step_none (y k : Nat) (hk : k < 8) (h : ((y : Int) % 2 == 1) = false) : Crc.rep (8 - (k + 1)) (y / 2) = Crc.rep (8 - k) y := by
  have e : 8 - k = (8 - (k + 1)) + 1 := by omega
  have hm : ¬ y % 2 = 1 := by simp at h; omega
  rw [e]
  show _ = Crc.rep (8 - (k + 1)) (Crc.stp y)
  rw [Crc.stp, if_neg hm]
theorem half_lt (y : Nat) (hy : y < 4294967296) : y / 2 ^^^ 3988292384 < 4294967296 := Crc.xor_lt _ _ (by omega) (by omega)
theorem xor_all' (r : Nat) (hr : r < 4294967296) : bits .xor .u32 IntKind.u32.max (r : Int) = ((r ^^^ 4294967295 : Nat) : Int) := by
  have e : IntKind.u32.max = ((4294967295 : Nat) : Int) := by decide
  rw [e, u32_xor_nat 4294967295 r (by omega) hr, Nat.xor_comm]
theorem bits_low (y : Nat) (hy : y < 4294967296) : bits .and .u32 (y : Int) 1 = (y : Int) % 2 := by
  have h := u32_and_nat y 1 hy (by omega)
  rw [Nat.and_one_is_mod] at h
  simpa using h

set_option maxHeartbeats 400000 in
theorem table_any (x : Nat) (w : World) (hx : x < 4294967296) :
    Calls Tryz.prog 42 #[.int .u32 x] w fun e w' => e = .returned (.int .u32 (Crc.rep 8 x)) ∧ w' = w := by
  go_enter Tryz.func42, Tryz.ntmps42
  go_wp2
  go_loop [0, 3] (fun v i => ∃ k y : Nat, k ≤ 8 ∧ i = .int .i64 k ∧ v = .int .u32 y ∧ y < 4294967296 ∧ Crc.rep (8 - k) y = Crc.rep 8 x) (fun _ i => 8 - (intOf i).toNat)
  case atStart => exact ⟨0, x, by omega, rfl, rfl, hx, rfl⟩
  case round =>
    obtain ⟨k, y, hk, rfl, rfl, hy, he⟩ := hrel
    have HE : Hid (Crc.rep (8 - k) y = Crc.rep 8 x) := he
    clear he
    by_cases hlt : k < 8
    · have hx := xor_half y hy
      have hyl := half_lt y hy
      go_wp2
      · go_round
        case rel => exact ⟨k + 1, _, by omega, by go_num, rfl, hyl, by rw [step_one y k hlt ‹_›]; exact HE.out⟩
        case measure => simp [intOf]; omega
      · go_round
        case rel => exact ⟨k + 1, y / 2, by omega, by go_num, by go_num, by omega, by rw [step_none y k hlt ‹_›]; exact HE.out⟩
        case measure => simp [intOf]; omega
    · go_wp2
      go_ret
      have e : 8 - k = 0 := by omega
      have h := HE.out
      rw [e] at h
      exact ⟨ret_int (by rw [← h]; rfl), rfl⟩

set_option maxHeartbeats 400000 in
theorem implCrc_any (v : Value) (zs : List Int) (w : World) (h : Rd .u8 w v zs) (hz : ∀ z ∈ zs, 0 ≤ z ∧ z < 256) :
    Calls Tryz.prog 35 #[v] w fun e w' => e = .returned (.int .u32 (Crc.crc zs)) ∧ w' = w := by
  have hm := h.len
  unfold maxLen at hm
  rcases h.parts with ⟨a, cap, rfl, hlow⟩ | ⟨b, off, cap, rfl, hbw, hcell⟩
  all_goals
    clear h
    go_enter Tryz.func35, Tryz.ntmps35
    go_wp2
    go_loop [3, 9] (fun v i => ∃ k r : Nat, k ≤ zs.length ∧ i = .int .i64 k ∧ v = .int .u32 r ∧ r < 4294967296 ∧ r = Crc.crcFold (zs.take k)) (fun _ i => zs.length - (intOf i).toNat)
    case atStart => exact ⟨0, 4294967295, by omega, rfl, rfl, by omega, rfl⟩
    case round =>
      obtain ⟨k, r, hk, rfl, rfl, hr, he⟩ := hrel
      have HE : Hid (r = Crc.crcFold (zs.take k)) := he
      clear he
      by_cases hlt : k < zs.length
      · first
        | omega
        | (have c1 := hcell k hlt
           have HF : Hid (Crc.crcFold (zs.take (k + 1)) = Crc.rep 8 (r ^^^ (zs.getD k 0).toNat)) := by rw [Crc.fold_take zs k hlt, ← HE.out]; rfl
           have hz1 := hz (zs.getD k 0) (by simp [List.getD, hlt])
           clear hcell hz
           generalize zs.getD k 0 = z at c1 HF hz1
           obtain ⟨c, rfl⟩ := Int.eq_ofNat_of_zero_le hz1.1
           obtain ⟨_, hc2⟩ := hz1
           have hc : c < 256 := by omega
           clear hc2
           have hmod : (c : Int) % 4294967296 = c := by omega
           have hx := u32_xor_nat r c hr (by omega)
           have hy0 := Crc.xor_lt r c hr (by omega)
           rw [Int.toNat_natCast] at HF
           generalize r ^^^ c = x at hx hy0 HF
           go_wp2
           go_loop [3, 17] (fun v i => ∃ j y : Nat, j ≤ 8 ∧ i = .int .i64 j ∧ v = .int .u32 y ∧ y < 4294967296 ∧ Crc.rep (8 - j) y = Crc.rep 8 x) (fun _ i => 8 - (intOf i).toNat)
           case atStart => exact ⟨0, x, by omega, rfl, rfl, hy0, rfl⟩
           case round =>
             obtain ⟨j, y, hj, rfl, rfl, hy, he⟩ := hrel
             have HY : Hid (Crc.rep (8 - j) y = Crc.rep 8 x) := he
             clear he
             have hx2 := xor_half y hy
             have hl2 := bits_low y hy
             by_cases hjt : j < 8
             · have hyl := half_lt y hy
               go_wp2
               · go_round
                 case rel => exact ⟨j + 1, _, by omega, by go_num, rfl, hyl, by rw [step_one y j hjt ‹_›]; exact HY.out⟩
                 case measure => simp [intOf]; omega
               · go_round
                 case rel => exact ⟨j + 1, y / 2, by omega, by go_num, by go_num, by omega, by rw [step_none y j hjt ‹_›]; exact HY.out⟩
                 case measure => simp [intOf]; omega
             · have HQ : Hid (y = Crc.crcFold (zs.take (k + 1))) := by
                 have e : 8 - j = 0 := by omega
                 have h := HY.out
                 rw [e] at h
                 rw [HF.out, ← h]; rfl
               go_wp2
               go_round
               case rel => exact ⟨k + 1, y, by omega, by go_num, rfl, hy, HQ.out⟩
               case measure => simp [intOf]; omega)
      · have hx := xor_all' r hr
        go_wp2
        go_ret
        have e1 := HE.out
        rw [List.take_of_length_le (by omega)] at e1
        exact ⟨ret_int (by rw [Crc.crc, ← e1]), rfl⟩

set_option maxHeartbeats 400000 in
theorem specCrc_any (v : Value) (zs : List Int) (w : World) (h : Rd .u8 w v zs) (hz : ∀ z ∈ zs, 0 ≤ z ∧ z < 256) :
    Calls Tryz.prog 25 #[v] w fun e w' => e = .returned (.int .u32 (Crc.crc zs)) ∧ w' = w := by
  have hm := h.len
  unfold maxLen at hm
  rcases h.parts with ⟨a, cap, rfl, hlow⟩ | ⟨b, off, cap, rfl, hbw, hcell⟩
  all_goals
    clear h
    go_enter Tryz.func25, Tryz.ntmps25
    go_wp2
    go_loop [3, 8] (fun v i => ∃ k r : Nat, k ≤ zs.length ∧ i = .int .i64 k ∧ v = .int .u32 r ∧ r < 4294967296 ∧ r = Crc.crcFold (zs.take k)) (fun _ i => zs.length - (intOf i).toNat)
    case atStart => exact ⟨0, 4294967295, by omega, rfl, rfl, by omega, rfl⟩
    case round =>
      obtain ⟨k, r, hk, rfl, rfl, hr, he⟩ := hrel
      have HE : Hid (r = Crc.crcFold (zs.take k)) := he
      clear he
      by_cases hlt : k < zs.length
      · first
        | omega
        | (have c1 := hcell k hlt
           have HF : Hid (Crc.crcFold (zs.take (k + 1)) = Crc.rep 8 (r ^^^ (zs.getD k 0).toNat)) := by rw [Crc.fold_take zs k hlt, ← HE.out]; rfl
           have hz1 := hz (zs.getD k 0) (by simp [List.getD, hlt])
           clear hcell hz
           generalize zs.getD k 0 = z at c1 HF hz1
           obtain ⟨c, rfl⟩ := Int.eq_ofNat_of_zero_le hz1.1
           obtain ⟨_, hc2⟩ := hz1
           have hc : c < 256 := by omega
           clear hc2
           have hmod : (c : Int) % 4294967296 = c := by omega
           have hx := u32_xor_nat r c hr (by omega)
           have hy0 := Crc.xor_lt r c hr (by omega)
           rw [Int.toNat_natCast] at HF
           have HB := Crc.byte_eq r c hc
           have HG : Hid (Crc.crcFold (zs.take (k + 1)) = (r / 256) ^^^ Crc.rep 8 ((r ^^^ c) % 256)) := HF.out.trans HB.symm
           clear HF HB
           generalize r ^^^ c = x at hx hy0 HG
           have hc8 : ((x : Int) % 256) = ((x % 256 : Nat) : Int) := by omega
           have hrl := Crc.rep_lt 8 (x % 256) (by omega)
           generalize x % 256 = x8 at hc8 HG hrl
           have hq : bits .xor .u32 ((r : Int) / 256) ((Crc.rep 8 x8 : Nat) : Int) = ((r / 256 ^^^ Crc.rep 8 x8 : Nat) : Int) := by
             have h := u32_xor_nat (r / 256) (Crc.rep 8 x8) (by omega) hrl
             simpa using h
           have hql := Crc.xor_lt (r / 256) (Crc.rep 8 x8) (by omega) hrl
           go_wp2_with (go_at_call 42; refine (table_any x8 _ (by omega)).mono ?_; rintro e w' ⟨rfl, rfl⟩)
           go_round
           case rel => exact ⟨k + 1, _, by omega, by go_num, rfl, hql, HG.out.symm⟩
           case measure => simp [intOf]; omega)
      · have hx := u32_xor_nat r 4294967295 hr (by omega)
        go_wp2
        go_ret
        have e1 := HE.out
        rw [List.take_of_length_le (by omega)] at e1
        exact ⟨ret_int (by rw [Crc.crc, ← e1]; simpa using hx), rfl⟩
end Go.Proofs.YtnbfpmmpmblmmaaGreatDoor

namespace Go.Proofs.YtnbfpmmpmblmmaaGreatDoor
set_option linter.unusedVariables false
set_option linter.unusedSimpArgs false
open Go.RowKit

/-- Bytes filled up to where the sum stands; with the sum behind them. -/
def pad (zs : List Int) : List Int := zs ++ List.replicate (508 - zs.length) 0
def sealed (zs : List Int) : List Int := pad zs ++ le 4 (Crc.crc (pad zs))
end Go.Proofs.YtnbfpmmpmblmmaaGreatDoor

namespace Go.Proofs.YtnbfpmmpmblmmaaGreatDoor
set_option linter.unusedVariables false
set_option linter.unusedSimpArgs false
open Go.RowKit

end Go.Proofs.YtnbfpmmpmblmmaaGreatDoor

namespace Go.Proofs.YtnbfpmmpmblmmaaGreatDoor
set_option linter.unusedVariables false
set_option linter.unusedSimpArgs false
open Go.RowKit

/-- The letters of a snapshot, where the program's own start lays them. -/
def snapLet : List Int := [115, 110, 97, 112, 115, 104, 111, 116]
def strInts (nm : ByteArray) : List Int := nm.data.toList.map fun b => (b.toNat : Int)
theorem strInts_len (nm : ByteArray) : (strInts nm).length = nm.size := by
  unfold strInts
  rw [List.length_map, Array.length_toList]
  rfl
theorem strInts_bd (nm : ByteArray) : ∀ z ∈ strInts nm, 0 ≤ z ∧ z < 256 := by
  intro z hz
  unfold strInts at hz
  obtain ⟨b, _, rfl⟩ := List.mem_map.1 hz
  have := b.toNat_lt
  omega
/-- The bytes of a snapshot ahead of its sum. -/
def bytesS (a : Nat) (nm : ByteArray) (b c : Nat) (s : Int) (ds : List Int) (p q : Int) : List Int := snapLet ++ le 1 a ++ le 1 nm.size ++ strInts nm ++ List.replicate (40 - (10 + nm.size)) 0 ++ le 8 b ++ le 8 c ++ bytesR s ds p q
/-- What the laying keeps, in a row of 512 bytes. -/
structure Ls (w wr : World) (g k : Nat) (xs : List Int) (C : Array Value) (t : TypeId) : Prop where
  own : wr.ownsRow w.heap.size 5 1 (.slice (some ⟨g, 0, none⟩) k 512) k (xs.map (Value.int .u8))
  blk : Blk wr w.heap.size C t
  old : Below w.heap.size w wr
  lt : w.heap.size < g
theorem Ls.step {w wr w' : World} {g k k' : Nat} {xs ys : List Int} {C : Array Value} {t : TypeId} (h : Ls w wr g k xs C t) (ho : w'.ownsRow w.heap.size 5 1 (.slice (some ⟨g, 0, none⟩) k' 512) k' (xs.map (Value.int .u8) ++ ys.map (Value.int .u8))) (hg : wr.grownBy w' (some g)) : Ls w w' g k' (xs ++ ys) C t :=
  ⟨by rw [List.map_append]; exact ho, (hg.block _ h.blk.lt (by have := h.lt; simp; omega)).trans h.blk, h.old.grown hg h.old.size (fun k e => by cases e; exact Nat.le_of_lt h.lt), h.lt⟩

end Go.Proofs.YtnbfpmmpmblmmaaGreatDoor

namespace Go.Proofs.YtnbfpmmpmblmmaaGreatDoor
set_option linter.unusedVariables false
set_option linter.unusedSimpArgs false
open Go.RowKit

theorem chk_size {nm : ByteArray} (h : (Chk.chkS nm == 0) = true) : nm.size ≤ 26 ∧ 0 < nm.size := by
  have h0 : Chk.chkS nm = 0 := by simpa using h
  unfold Chk.chkS at h0
  split at h0
  · omega
  · rename_i hn
    split at h0
    · omega
    · refine ⟨by omega, ?_⟩
      rcases Nat.eq_zero_or_pos nm.size with hz | hz
      · exact absurd (.inl (by rw [ByteArray.toList_eq]; exact List.eq_nil_of_length_eq_zero (by rw [Array.length_toList]; exact hz))) hn
      · exact hz
end Go.Proofs.YtnbfpmmpmblmmaaGreatDoor

namespace Go.Proofs.YtnbfpmmpmblmmaaGreatDoor
set_option linter.unusedVariables false
set_option linter.unusedSimpArgs false
open Go.RowKit

end Go.Proofs.YtnbfpmmpmblmmaaGreatDoor

namespace Go.Proofs.YtnbfpmmpmblmmaaGreatDoor
set_option linter.unusedVariables false
set_option linter.unusedSimpArgs false
open Go.RowKit

end Go.Proofs.YtnbfpmmpmblmmaaGreatDoor
