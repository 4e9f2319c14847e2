/- The program's EncodeRoot: it gives encR, in memory of its own. The program lays an inode down: layZeros, layInode. A block with its sum: laySum of the program, l02Sealed of the model. -/
import Derived.Test.YtohmjfagbhnieaaGreatDoorZl21
import Derived.Outline
import Derived.Deep.RegionHeld3
import Derived.Test.YtohmjfagbhnieaaGreatDoorZl09
import Derived.Test.YtohmjfagbhnieaaGreatDoorZl16
namespace Go.Proofs.YtohmjfagbhnieaaGreatDoor
set_option linter.unusedVariables false
set_option linter.unusedSimpArgs false
open Go.RowKit

theorem make64 (w : World) : (Instr.makeSlice 22 (.int .i64 0) (.int .i64 64)).run Tryz.prog w = .ok (.slice (some ⟨w.heap.size, 0, none⟩) 0 64) (w.alloc (.cells (Array.replicate 64 (.int .u8 0)) 5)) := by kernel_rfl

theorem list12 {ds : List Int} (h : ds.length = 12) : ∃ d0 d1 d2 d3 d4 d5 d6 d7 d8 d9 d10 d11, ds = [d0, d1, d2, d3, d4, d5, d6, d7, d8, d9, d10, d11] := by
  match ds, h with | [d0, d1, d2, d3, d4, d5, d6, d7, d8, d9, d10, d11], _ => exact ⟨d0, d1, d2, d3, d4, d5, d6, d7, d8, d9, d10, d11, rfl⟩
theorem far_cells {w1 w5 : World} {b : Nat} {o : Obj} (hb : b < w1.heap.size) (g5 : (w1.alloc o).drew.grownBy w5 (some w1.heap.size)) : ∀ j, w5.cell? ⟨b, j, none⟩ = w1.cell? ⟨b, j, none⟩ := fun j =>
  World.cell?_of_block (a := ⟨b, j, none⟩) ((g5.block b (show b < (w1.alloc o).heap.size by simp; omega) (by simp; omega)).trans (Below.heap_alloc w1 o b hb))
theorem below_far {w w1 w5 : World} {o : Obj} (g5 : (w1.alloc o).drew.grownBy w5 (some w1.heap.size)) (hs : w.heap.size ≤ w1.heap.size) : Below w.heap.size w1 w5 :=
  (((Below.refl w.heap.size w1).alloc hs o).drew).grown g5 (show w.heap.size ≤ (w1.alloc o).heap.size by simp; omega) (fun k h => by cases h; exact hs)

end Go.Proofs.YtohmjfagbhnieaaGreatDoor

namespace Go.Proofs.YtohmjfagbhnieaaGreatDoor
set_option linter.unusedVariables false
set_option linter.unusedSimpArgs false
open Go.RowKit

theorem lay8_eq (x : Int) (g base k cap n : Nat) (xs : List Value) (w : World) (hx : x = (n : Int)) (h : w.ownsRow base 5 1 (.slice (some ⟨g, 0, none⟩) k cap) k xs) (hr : k + 1 ≤ cap) (hcap : cap ≤ 140737488355328) (hn : n < 256) :
    Calls Tryz.prog 78 #[.slice (some ⟨g, 0, none⟩) k cap, .int .u8 x] w fun e w' => e = .returned (.slice (some ⟨g, 0, none⟩) (k + 1) cap) ∧ w'.ownsRow base 5 1 (.slice (some ⟨g, 0, none⟩) (k + 1) cap) (k + 1) (xs ++ (le 1 n).map (Value.int .u8)) ∧ w.grownBy w' (some g) := by
  subst hx
  exact lay8_any g base k cap n xs w h hr hcap hn
theorem wrap_u8 (n : Nat) (h : n < 256) : IntKind.u8.wrap (n : Int) = n := by
  simp only [IntKind.wrap, IntKind.bits, IntKind.signed]
  simp
  omega

/-- The bytes of an inode. -/
def bytesIno (a0 a1 a2 a3 a4 a5 a6 a7 a8 : Nat) (s : Int) (ds : List Int) (p q : Int) : List Int := le 1 a0 ++ List.replicate 1 0 ++ le 2 a1 ++ le 2 a2 ++ le 2 a3 ++ le 2 a4 ++ List.replicate 2 0 ++ le 4 a5 ++ le 8 a6 ++ le 8 a7 ++ le 8 a8 ++ bytesR s ds p q ++ List.replicate 24 0
theorem bytesIno_len (a0 a1 a2 a3 a4 a5 a6 a7 a8 : Nat) (s : Int) (ds : List Int) (p q : Int) (hd : ds.length = 12) : (bytesIno a0 a1 a2 a3 a4 a5 a6 a7 a8 s ds p q).length = 128 := by
  unfold bytesIno
  simp only [List.length_append, le_len, List.length_replicate, bytesR_len s ds p q hd]

/-- What the laying keeps: the row so far, the boxed inode, all that is older. -/
structure Li (w wr : World) (g k : Nat) (xs : List Int) (C : Array Value) (t : TypeId) : Prop where
  own : wr.ownsRow w.heap.size 5 1 (.slice (some ⟨g, 0, none⟩) k 128) k (xs.map (Value.int .u8))
  blk : Blk wr w.heap.size C t
  old : Below w.heap.size w wr
  lt : w.heap.size < g
theorem Li.step {w wr w' : World} {g k k' : Nat} {xs ys : List Int} {C : Array Value} {t : TypeId} (h : Li w wr g k xs C t) (ho : w'.ownsRow w.heap.size 5 1 (.slice (some ⟨g, 0, none⟩) k' 128) k' (xs.map (Value.int .u8) ++ ys.map (Value.int .u8))) (hg : wr.grownBy w' (some g)) : Li w w' g k' (xs ++ ys) C t :=
  ⟨by rw [List.map_append]; exact ho, (hg.block _ h.blk.lt (by have := h.lt; simp; omega)).trans h.blk, h.old.grown hg h.old.size (fun k e => by cases e; exact Nat.le_of_lt h.lt), h.lt⟩

theorem make128 (w : World) : (Instr.makeSlice 22 (.int .i64 0) (.int .i64 128)).run Tryz.prog w = .ok (.slice (some ⟨w.heap.size, 0, none⟩) 0 128) (w.alloc (.cells (Array.replicate 128 (.int .u8 0)) 5)) := by kernel_rfl

end Go.Proofs.YtohmjfagbhnieaaGreatDoor

namespace Go.Proofs.YtohmjfagbhnieaaGreatDoor
set_option linter.unusedVariables false
set_option linter.unusedSimpArgs false
open Go.RowKit

/-- Bytes filled up to where the sum stands; with the sum behind them. -/
def pad (zs : List Int) : List Int := zs ++ List.replicate (508 - zs.length) 0
def sealed (zs : List Int) : List Int := pad zs ++ le 4 (Crc.crc (pad zs))
theorem pad_len (zs : List Int) (h : zs.length ≤ 508) : (pad zs).length = 508 := by
  unfold pad
  rw [List.length_append, List.length_replicate]
  omega
theorem sealed_len (zs : List Int) (h : zs.length ≤ 508) : (sealed zs).length = 512 := by
  unfold sealed
  rw [List.length_append, pad_len zs h, le_len]
theorem pad_bd (zs : List Int) (h : ∀ z ∈ zs, 0 ≤ z ∧ z < 256) : ∀ z ∈ pad zs, 0 ≤ z ∧ z < 256 := by
  intro z hz
  unfold pad at hz
  rw [List.mem_append] at hz
  rcases hz with hz | hz
  · exact h z hz
  · rw [(List.mem_replicate.1 hz).2]; omega

theorem crc_lt (zs : List Int) (hz : ∀ z ∈ zs, 0 ≤ z ∧ z < 256) : Crc.crc zs < 4294967296 := Crc.xor_lt _ _ (Crc.fold_lt zs hz) (by omega)

end Go.Proofs.YtohmjfagbhnieaaGreatDoor
