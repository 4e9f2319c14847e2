/- The program's EncodeRoot: it gives encR, in memory of its own. The program lays an inode down: layZeros, layInode. The sum by eight steps a byte and by a table of a byte's part are one: plain arithmetic. The walks of the two sums: the model's by its table, the program's by eight steps a byte. -/
import Derived.Test.YtkbbnflblkkepaaGreatDoorZm23
import Derived.Outline
import Derived.Deep.RegionHeld3
import Derived.WalkKit
import Derived.Test.YtkbbnflblkkepaaGreatDoorRows
import Derived.Test.YtkbbnflblkkepaaGreatDoorZm01
import Derived.WalkLawsBesides
namespace Go.Proofs.YtkbbnflblkkepaaGreatDoor
set_option linter.unusedVariables false
set_option linter.unusedSimpArgs false
open Go.RowKit

theorem make64 (w : World) : (Instr.makeSlice 22 (.int .i64 0) (.int .i64 64)).run Tryz.prog w = .ok (.slice (some ⟨w.heap.size, 0, none⟩) 0 64) (w.alloc (.cells (Array.replicate 64 (.int .u8 0)) 5)) := by kernel_rfl

theorem list12 {ds : List Int} (h : ds.length = 12) : ∃ d0 d1 d2 d3 d4 d5 d6 d7 d8 d9 d10 d11, ds = [d0, d1, d2, d3, d4, d5, d6, d7, d8, d9, d10, d11] := by
  match ds, h with | [d0, d1, d2, d3, d4, d5, d6, d7, d8, d9, d10, d11], _ => exact ⟨d0, d1, d2, d3, d4, d5, d6, d7, d8, d9, d10, d11, rfl⟩
theorem far_cells {w1 w5 : World} {b : Nat} {o : Obj} (hb : b < w1.heap.size) (g5 : (w1.alloc o).drew.grownBy w5 (some w1.heap.size)) : ∀ j, w5.cell? ⟨b, j, none⟩ = w1.cell? ⟨b, j, none⟩ := fun j =>
  World.cell?_of_block (a := ⟨b, j, none⟩) ((g5.block b (show b < (w1.alloc o).heap.size by simp; omega) (by simp; omega)).trans (Below.heap_alloc w1 o b hb))
theorem below_far {w w1 w5 : World} {o : Obj} (g5 : (w1.alloc o).drew.grownBy w5 (some w1.heap.size)) (hs : w.heap.size ≤ w1.heap.size) : Below w.heap.size w1 w5 :=
  (((Below.refl w.heap.size w1).alloc hs o).drew).grown g5 (show w.heap.size ≤ (w1.alloc o).heap.size by simp; omega) (fun k h => by cases h; exact hs)

end Go.Proofs.YtkbbnflblkkepaaGreatDoor

namespace Go.Proofs.YtkbbnflblkkepaaGreatDoor
set_option linter.unusedVariables false
set_option linter.unusedSimpArgs false
open Go.RowKit

theorem wrap_u8 (n : Nat) (h : n < 256) : IntKind.u8.wrap (n : Int) = n := by
  simp only [IntKind.wrap, IntKind.bits, IntKind.signed]
  simp
  omega

/-- The bytes of an inode. -/
def bytesIno (a0 a1 a2 a3 a4 a5 a6 a7 a8 : Nat) (s : Int) (ds : List Int) (p q : Int) : List Int := le 1 a0 ++ List.replicate 1 0 ++ le 2 a1 ++ le 2 a2 ++ le 2 a3 ++ le 2 a4 ++ List.replicate 2 0 ++ le 4 a5 ++ le 8 a6 ++ le 8 a7 ++ le 8 a8 ++ bytesR s ds p q ++ List.replicate 24 0
theorem bytesIno_len (a0 a1 a2 a3 a4 a5 a6 a7 a8 : Nat) (s : Int) (ds : List Int) (p q : Int) (hd : ds.length = 12) : (bytesIno a0 a1 a2 a3 a4 a5 a6 a7 a8 s ds p q).length = 128 := by
  unfold bytesIno
  simp only [List.length_append, le_len, List.length_replicate, bytesR_len s ds p q hd]

/-- What the laying keeps: the row so far, the boxed inode, all that is older. -/
structure Li (w wr : World) (g k : Nat) (xs : List Int) (C : Array Value) (t : TypeId) : Prop where
  own : wr.ownsRow w.heap.size 5 1 (.slice (some ⟨g, 0, none⟩) k 128) k (xs.map (Value.int .u8))
  blk : Blk wr w.heap.size C t
  old : Below w.heap.size w wr
  lt : w.heap.size < g
theorem Li.step {w wr w' : World} {g k k' : Nat} {xs ys : List Int} {C : Array Value} {t : TypeId} (h : Li w wr g k xs C t) (ho : w'.ownsRow w.heap.size 5 1 (.slice (some ⟨g, 0, none⟩) k' 128) k' (xs.map (Value.int .u8) ++ ys.map (Value.int .u8))) (hg : wr.grownBy w' (some g)) : Li w w' g k' (xs ++ ys) C t :=
  ⟨by rw [List.map_append]; exact ho, (hg.block _ h.blk.lt (by have := h.lt; simp; omega)).trans h.blk, h.old.grown hg h.old.size (fun k e => by cases e; exact Nat.le_of_lt h.lt), h.lt⟩

theorem make128 (w : World) : (Instr.makeSlice 22 (.int .i64 0) (.int .i64 128)).run Tryz.prog w = .ok (.slice (some ⟨w.heap.size, 0, none⟩) 0 128) (w.alloc (.cells (Array.replicate 128 (.int .u8 0)) 5)) := by kernel_rfl

end Go.Proofs.YtkbbnflblkkepaaGreatDoor

namespace Go.Proofs.YtkbbnflblkkepaaGreatDoor.Crc

/-- One of the eight steps of a byte. -/
def stp (n : Nat) : Nat := if n % 2 = 1 then (n / 2) ^^^ 3988292384 else n / 2
def rep : Nat → Nat → Nat
  | 0, n => n
  | k + 1, n => rep k (stp n)

theorem stp_xor (a b : Nat) : stp (a ^^^ b) = stp a ^^^ stp b := by
  unfold stp
  have hm : (a ^^^ b) % 2 = (a + b) % 2 := by
    have h := Nat.xor_mod_two_eq_one (a := a) (b := b)
    omega
  rw [Nat.xor_div_two, hm]
  rcases Nat.mod_two_eq_zero_or_one a with ha | ha <;> rcases Nat.mod_two_eq_zero_or_one b with hb | hb
  · rw [if_neg (by omega), if_neg (by omega), if_neg (by omega)]
  · rw [if_pos (by omega), if_neg (by omega), if_pos (by omega), Nat.xor_assoc]
  · rw [if_pos (by omega), if_pos (by omega), if_neg (by omega), Nat.xor_assoc, Nat.xor_assoc, Nat.xor_comm (b / 2)]
  · rw [if_neg (by omega), if_pos (by omega), if_pos (by omega)]
    rw [Nat.xor_assoc, Nat.xor_comm (b / 2), ← Nat.xor_assoc 3988292384, Nat.xor_self, Nat.zero_xor]

theorem rep_xor : ∀ (k a b : Nat), rep k (a ^^^ b) = rep k a ^^^ rep k b
  | 0, _, _ => rfl
  | k + 1, a, b => by simp only [rep]; rw [stp_xor, rep_xor k]

theorem rep_shift : ∀ (k q : Nat), rep k (2 ^ k * q) = q
  | 0, q => by simp [rep]
  | k + 1, q => by
    have : stp (2 ^ (k + 1) * q) = 2 ^ k * q := by
      have e : 2 ^ (k + 1) * q = 2 * (2 ^ k * q) := by rw [Nat.pow_succ, Nat.mul_comm (2 ^ k) 2, Nat.mul_assoc]
      unfold stp
      rw [e, if_neg (by omega)]
      omega
    simp only [rep]
    rw [this, rep_shift k]

theorem rep_snoc : ∀ (k n : Nat), rep (k + 1) n = stp (rep k n)
  | 0, _ => rfl
  | k + 1, n => by
    show rep (k + 1) (stp n) = stp (rep k (stp n))
    exact rep_snoc k (stp n)

theorem split256 (x : Nat) : x = (2 ^ 8 * (x / 256)) ^^^ (x % 256) := by
  have h : (2 ^ 8 * (x / 256)) ^^^ (x % 256) = 2 ^ 8 * (x / 256) + x % 256 := by
    apply Nat.eq_of_testBit_eq
    intro i
    rw [Nat.testBit_xor, Nat.testBit_two_pow_mul_add _ (by omega), Nat.testBit_two_pow_mul]
    by_cases hi : i < 8
    · rw [if_pos hi]
      have : ¬ (8 ≤ i) := by omega
      simp [this]
    · rw [if_neg hi]
      have : (x % 256).testBit i = false := Nat.testBit_lt_two_pow (Nat.lt_of_lt_of_le (Nat.mod_lt _ (by decide)) (Nat.pow_le_pow_right (n := 2) (by decide) (by omega : 8 ≤ i)))
      rw [this]; simp; omega
  rw [h]; omega

theorem rep8_split (x : Nat) : rep 8 x = (x / 256) ^^^ rep 8 (x % 256) := by
  conv => lhs; rw [split256 x]
  rw [rep_xor, rep_shift]

theorem xor_div256 (r c : Nat) (hc : c < 256) : (r ^^^ c) / 256 = r / 256 := by
  have := Nat.xor_div_two_pow (a := r) (b := c) (n := 8)
  rw [show (2 : Nat) ^ 8 = 256 from rfl] at this
  rw [this, Nat.div_eq_of_lt hc, Nat.xor_zero]

/-- The table's way and the eight steps are one. -/
theorem byte_eq (r c : Nat) (hc : c < 256) : (r / 256) ^^^ rep 8 ((r ^^^ c) % 256) = rep 8 (r ^^^ c) := by
  rw [rep8_split (r ^^^ c), xor_div256 r c hc]

theorem stp_lt (n : Nat) (h : n < 4294967296) : stp n < 4294967296 := by
  unfold stp
  split
  · exact Nat.xor_lt_two_pow (n := 32) (by omega) (by decide)
  · omega
theorem rep_lt : ∀ (k n : Nat), n < 4294967296 → rep k n < 4294967296
  | 0, _, h => h
  | k + 1, n, h => rep_lt k _ (stp_lt n h)
theorem xor_lt (a b : Nat) (ha : a < 4294967296) (hb : b < 4294967296) : a ^^^ b < 4294967296 := Nat.xor_lt_two_pow (n := 32) ha hb

def crcStep (r : Nat) (c : Int) : Nat := rep 8 (r ^^^ c.toNat)
def crcFold (zs : List Int) : Nat := zs.foldl crcStep 4294967295
def crc (zs : List Int) : Nat := crcFold zs ^^^ 4294967295

theorem fold_lt (zs : List Int) (hz : ∀ z ∈ zs, 0 ≤ z ∧ z < 256) : crcFold zs < 4294967296 := by
  unfold crcFold
  suffices ∀ (r : Nat), r < 4294967296 → zs.foldl crcStep r < 4294967296 from this _ (by decide)
  induction zs with
  | nil => intro r h; exact h
  | cons z zs ih =>
    intro r h
    rw [List.foldl_cons]
    have := hz z (by simp)
    exact ih (fun y hy => hz y (by simp [hy])) _ (rep_lt _ _ (xor_lt _ _ h (by omega)))

theorem fold_snoc (zs : List Int) (z : Int) : crcFold (zs ++ [z]) = crcStep (crcFold zs) z := by simp [crcFold]
theorem fold_take (zs : List Int) (k : Nat) (h : k < zs.length) : crcFold (zs.take (k + 1)) = crcStep (crcFold (zs.take k)) (zs.getD k 0) := by
  rw [List.take_succ_eq_append_getElem h, fold_snoc]
  simp [List.getD, h]
end Go.Proofs.YtkbbnflblkkepaaGreatDoor.Crc

namespace Go.Proofs.YtkbbnflblkkepaaGreatDoor
open Go.RowKit

theorem xor_half (y : Nat) (hy : y < 4294967296) : bits .xor .u32 ((y : Int) / 2) 3988292384 = ((y / 2 ^^^ 3988292384 : Nat) : Int) := by
  have h := u32_xor_nat (y / 2) 3988292384 (by omega) (by omega)
  simpa using h
theorem step_one (y k : Nat) (hk : k < 8) (h : ((y : Int) % 2 == 1) = true) : Crc.rep (8 - (k + 1)) (y / 2 ^^^ 3988292384) = Crc.rep (8 - k) y := by
  have e : 8 - k = (8 - (k + 1)) + 1 := by omega
  have hm : y % 2 = 1 := by simp at h; omega
  rw [e]
  show _ = Crc.rep (8 - (k + 1)) (Crc.stp y)
  rw [Crc.stp, if_pos hm]
theorem step_none (y k : Nat) (hk : k < 8) (h : ((y : Int) % 2 == 1) = false) : Crc.rep (8 - (k + 1)) (y / 2) = Crc.rep (8 - k) y := by
  have e : 8 - k = (8 - (k + 1)) + 1 := by omega
  have hm : ¬ y % 2 = 1 := by simp at h; omega
  rw [e]
  show _ = Crc.rep (8 - (k + 1)) (Crc.stp y)
  rw [Crc.stp, if_neg hm]
theorem half_lt (y : Nat) (hy : y < 4294967296) : y / 2 ^^^ 3988292384 < 4294967296 := Crc.xor_lt _ _ (by omega) (by omega)
theorem xor_all' (r : Nat) (hr : r < 4294967296) : bits .xor .u32 IntKind.u32.max (r : Int) = ((r ^^^ 4294967295 : Nat) : Int) := by
  have e : IntKind.u32.max = ((4294967295 : Nat) : Int) := by decide
  rw [e, u32_xor_nat 4294967295 r (by omega) hr, Nat.xor_comm]
theorem bits_low (y : Nat) (hy : y < 4294967296) : bits .and .u32 (y : Int) 1 = (y : Int) % 2 := by
  have h := u32_and_nat y 1 hy (by omega)
  rw [Nat.and_one_is_mod] at h
  simpa using h

set_option maxHeartbeats 400000 in
theorem table_any (x : Nat) (w : World) (hx : x < 4294967296) :
    Calls Tryz.prog 102 #[.int .u32 x] w fun e w' => e = .returned (.int .u32 (Crc.rep 8 x)) ∧ w' = w := by
  go_enter Tryz.func102, Tryz.ntmps102
  go_wp2
  go_loop [0, 3] (fun v i => ∃ k y : Nat, k ≤ 8 ∧ i = .int .i64 k ∧ v = .int .u32 y ∧ y < 4294967296 ∧ Crc.rep (8 - k) y = Crc.rep 8 x) (fun _ i => 8 - (intOf i).toNat)
  case atStart => exact ⟨0, x, by omega, rfl, rfl, hx, rfl⟩
  case round =>
    obtain ⟨k, y, hk, rfl, rfl, hy, he⟩ := hrel
    have HE : Hid (Crc.rep (8 - k) y = Crc.rep 8 x) := he
    clear he
    by_cases hlt : k < 8
    · have hx := xor_half y hy
      have hyl := half_lt y hy
      go_wp2
      · go_round
        case rel => exact ⟨k + 1, _, by omega, by go_num, rfl, hyl, by rw [step_one y k hlt ‹_›]; exact HE.out⟩
        case measure => simp [intOf]; omega
      · go_round
        case rel => exact ⟨k + 1, y / 2, by omega, by go_num, by go_num, by omega, by rw [step_none y k hlt ‹_›]; exact HE.out⟩
        case measure => simp [intOf]; omega
    · go_wp2
      go_ret
      have e : 8 - k = 0 := by omega
      have h := HE.out
      rw [e] at h
      exact ⟨ret_int (by rw [← h]; rfl), rfl⟩

set_option maxHeartbeats 400000 in
theorem implCrc_any (v : Value) (zs : List Int) (w : World) (h : Rd .u8 w v zs) (hz : ∀ z ∈ zs, 0 ≤ z ∧ z < 256) :
    Calls Tryz.prog 91 #[v] w fun e w' => e = .returned (.int .u32 (Crc.crc zs)) ∧ w' = w := by
  have hm := h.len
  unfold maxLen at hm
  rcases h.parts with ⟨a, cap, rfl, hlow⟩ | ⟨b, off, cap, rfl, hbw, hcell⟩
  all_goals
    clear h
    go_enter Tryz.func91, Tryz.ntmps91
    go_wp2
    go_loop [3, 9] (fun v i => ∃ k r : Nat, k ≤ zs.length ∧ i = .int .i64 k ∧ v = .int .u32 r ∧ r < 4294967296 ∧ r = Crc.crcFold (zs.take k)) (fun _ i => zs.length - (intOf i).toNat)
    case atStart => exact ⟨0, 4294967295, by omega, rfl, rfl, by omega, rfl⟩
    case round =>
      obtain ⟨k, r, hk, rfl, rfl, hr, he⟩ := hrel
      have HE : Hid (r = Crc.crcFold (zs.take k)) := he
      clear he
      by_cases hlt : k < zs.length
      · first
        | omega
        | (have c1 := hcell k hlt
           have HF : Hid (Crc.crcFold (zs.take (k + 1)) = Crc.rep 8 (r ^^^ (zs.getD k 0).toNat)) := by rw [Crc.fold_take zs k hlt, ← HE.out]; rfl
           have hz1 := hz (zs.getD k 0) (by simp [List.getD, hlt])
           clear hcell hz
           generalize zs.getD k 0 = z at c1 HF hz1
           obtain ⟨c, rfl⟩ := Int.eq_ofNat_of_zero_le hz1.1
           obtain ⟨_, hc2⟩ := hz1
           have hc : c < 256 := by omega
           clear hc2
           have hmod : (c : Int) % 4294967296 = c := by omega
           have hx := u32_xor_nat r c hr (by omega)
           have hy0 := Crc.xor_lt r c hr (by omega)
           rw [Int.toNat_natCast] at HF
           generalize r ^^^ c = x at hx hy0 HF
           go_wp2
           go_loop [3, 17] (fun v i => ∃ j y : Nat, j ≤ 8 ∧ i = .int .i64 j ∧ v = .int .u32 y ∧ y < 4294967296 ∧ Crc.rep (8 - j) y = Crc.rep 8 x) (fun _ i => 8 - (intOf i).toNat)
           case atStart => exact ⟨0, x, by omega, rfl, rfl, hy0, rfl⟩
           case round =>
             obtain ⟨j, y, hj, rfl, rfl, hy, he⟩ := hrel
             have HY : Hid (Crc.rep (8 - j) y = Crc.rep 8 x) := he
             clear he
             have hx2 := xor_half y hy
             have hl2 := bits_low y hy
             by_cases hjt : j < 8
             · have hyl := half_lt y hy
               go_wp2
               · go_round
                 case rel => exact ⟨j + 1, _, by omega, by go_num, rfl, hyl, by rw [step_one y j hjt ‹_›]; exact HY.out⟩
                 case measure => simp [intOf]; omega
               · go_round
                 case rel => exact ⟨j + 1, y / 2, by omega, by go_num, by go_num, by omega, by rw [step_none y j hjt ‹_›]; exact HY.out⟩
                 case measure => simp [intOf]; omega
             · have HQ : Hid (y = Crc.crcFold (zs.take (k + 1))) := by
                 have e : 8 - j = 0 := by omega
                 have h := HY.out
                 rw [e] at h
                 rw [HF.out, ← h]; rfl
               go_wp2
               go_round
               case rel => exact ⟨k + 1, y, by omega, by go_num, rfl, hy, HQ.out⟩
               case measure => simp [intOf]; omega)
      · have hx := xor_all' r hr
        go_wp2
        go_ret
        have e1 := HE.out
        rw [List.take_of_length_le (by omega)] at e1
        exact ⟨ret_int (by rw [Crc.crc, ← e1]), rfl⟩

set_option maxHeartbeats 400000 in
theorem specCrc_any (v : Value) (zs : List Int) (w : World) (h : Rd .u8 w v zs) (hz : ∀ z ∈ zs, 0 ≤ z ∧ z < 256) :
    Calls Tryz.prog 89 #[v] w fun e w' => e = .returned (.int .u32 (Crc.crc zs)) ∧ w' = w := by
  have hm := h.len
  unfold maxLen at hm
  rcases h.parts with ⟨a, cap, rfl, hlow⟩ | ⟨b, off, cap, rfl, hbw, hcell⟩
  all_goals
    clear h
    go_enter Tryz.func89, Tryz.ntmps89
    go_wp2
    go_loop [3, 8] (fun v i => ∃ k r : Nat, k ≤ zs.length ∧ i = .int .i64 k ∧ v = .int .u32 r ∧ r < 4294967296 ∧ r = Crc.crcFold (zs.take k)) (fun _ i => zs.length - (intOf i).toNat)
    case atStart => exact ⟨0, 4294967295, by omega, rfl, rfl, by omega, rfl⟩
    case round =>
      obtain ⟨k, r, hk, rfl, rfl, hr, he⟩ := hrel
      have HE : Hid (r = Crc.crcFold (zs.take k)) := he
      clear he
      by_cases hlt : k < zs.length
      · first
        | omega
        | (have c1 := hcell k hlt
           have HF : Hid (Crc.crcFold (zs.take (k + 1)) = Crc.rep 8 (r ^^^ (zs.getD k 0).toNat)) := by rw [Crc.fold_take zs k hlt, ← HE.out]; rfl
           have hz1 := hz (zs.getD k 0) (by simp [List.getD, hlt])
           clear hcell hz
           generalize zs.getD k 0 = z at c1 HF hz1
           obtain ⟨c, rfl⟩ := Int.eq_ofNat_of_zero_le hz1.1
           obtain ⟨_, hc2⟩ := hz1
           have hc : c < 256 := by omega
           clear hc2
           have hmod : (c : Int) % 4294967296 = c := by omega
           have hx := u32_xor_nat r c hr (by omega)
           have hy0 := Crc.xor_lt r c hr (by omega)
           rw [Int.toNat_natCast] at HF
           have HB := Crc.byte_eq r c hc
           have HG : Hid (Crc.crcFold (zs.take (k + 1)) = (r / 256) ^^^ Crc.rep 8 ((r ^^^ c) % 256)) := HF.out.trans HB.symm
           clear HF HB
           generalize r ^^^ c = x at hx hy0 HG
           have hc8 : ((x : Int) % 256) = ((x % 256 : Nat) : Int) := by omega
           have hrl := Crc.rep_lt 8 (x % 256) (by omega)
           generalize x % 256 = x8 at hc8 HG hrl
           have hq : bits .xor .u32 ((r : Int) / 256) ((Crc.rep 8 x8 : Nat) : Int) = ((r / 256 ^^^ Crc.rep 8 x8 : Nat) : Int) := by
             have h := u32_xor_nat (r / 256) (Crc.rep 8 x8) (by omega) hrl
             simpa using h
           have hql := Crc.xor_lt (r / 256) (Crc.rep 8 x8) (by omega) hrl
           go_wp2_with (go_at_call 102; refine (table_any x8 _ (by omega)).mono ?_; rintro e w' ⟨rfl, rfl⟩)
           go_round
           case rel => exact ⟨k + 1, _, by omega, by go_num, rfl, hql, HG.out.symm⟩
           case measure => simp [intOf]; omega)
      · have hx := u32_xor_nat r 4294967295 hr (by omega)
        go_wp2
        go_ret
        have e1 := HE.out
        rw [List.take_of_length_le (by omega)] at e1
        exact ⟨ret_int (by rw [Crc.crc, ← e1]; simpa using hx), rfl⟩
end Go.Proofs.YtkbbnflblkkepaaGreatDoor
