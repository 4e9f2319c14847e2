/- The root of a table of inodes: l02TableSize of the model, tableRootFault of the program. The program's look at a snapshot: snapFault. EncodeWords of the program: it gives encW, in memory of its own. The program lays a root down: layRoot, EncodeRoot. The program's EncodeRoot: it gives encR, in memory of its own. -/
import Derived.Test.YtplieplmhdfndaaGreatDoorZw09
import Derived.Test.YtplieplmhdfndaaGreatDoorZw10
import Derived.Test.YtplieplmhdfndaaGreatDoorZw13
import Derived.Test.YtplieplmhdfndaaGreatDoorZw03
import Derived.Deep.RegionHeld
import Derived.Outline
namespace Go.Proofs.YtplieplmhdfndaaGreatDoor
set_option linter.unusedVariables false
set_option linter.unusedSimpArgs false
open Go.RowKit

def tabB (s : Int) : Bool := decide (256 ≤ s) && (s % 128 == 0) && decide (s ≤ 128128)
theorem tab_order (r : Bool) (s : Int) : (true && r && (decide (256 ≤ s) && decide (s ≤ 128128)) && (s % 128 == 0)) = (r && tabB s) := by
  unfold tabB
  cases r <;> cases decide (256 ≤ s) <;> cases decide (s ≤ 128128) <;> cases (s % 128 == 0) <;> rfl
theorem tab_neg (r b : Bool) (s : Int) (h : s < 0) : (true && r && (decide (256 ≤ s) && decide (s ≤ 128128)) && b) = (r && tabB s) := by
  unfold tabB
  rw [decide_eq_false (show ¬ 256 ≤ s by omega)]
  cases r <;> cases b <;> cases decide (s ≤ 128128) <;> cases (s % 128 == 0) <;> rfl

end Go.Proofs.YtplieplmhdfndaaGreatDoor

namespace Go.Proofs.YtplieplmhdfndaaGreatDoor
set_option linter.unusedVariables false
set_option linter.unusedSimpArgs false
open Go.RowKit

/-- A snapshot as cells: its plane, its name, two numbers, its root. -/
def snapC (pl : Int) (nm : ByteArray) (ge cl s : Int) (ds : List Int) (p q : Int) : Array Value := (([.int .i64 pl, .string nm, .int .i64 ge, .int .i64 cl] : List Value) ++ (rootI s ds p q).map (Value.int .i64)).toArray
theorem snapC_size (pl : Int) (nm : ByteArray) (ge cl s : Int) (ds : List Int) (p q : Int) (hd : ds.length = 12) : (snapC pl nm ge cl s ds p q).size = 19 := by
  have := rootI_len s ds p q hd
  simp [snapC, this]
theorem snapC_one (pl : Int) (nm : ByteArray) (ge cl s : Int) (ds : List Int) (p q : Int) : (snapC pl nm ge cl s ds p q).all (·.oneCell') = true := by
  rw [Array.all_eq_true_iff_forall_mem]
  intro v hv
  simp [snapC] at hv
  rcases hv with rfl | rfl | rfl | rfl | ⟨z, _, rfl⟩ <;> rfl
theorem snap_range (pl : Int) (nm : ByteArray) (ge cl s : Int) (ds : List Int) (p q : Int) {w : World} {b : Nat} {t : TypeId} (h : Blk w b (snapC pl nm ge cl s ds p q) t) : w.rangeAt b 4 ((rootI s ds p q).map (Value.int .i64)) := by
  intro j v hv
  rw [h.cell (4 + j)]
  unfold snapC
  rw [List.getElem?_toArray, List.getElem?_append_right (by simp)]
  simpa using hv
def rightS (pl : Int) (nm : ByteArray) (ge cl s : Int) (ds : List Int) (p q : Int) : Bool := wi pl 1 31 && (Chk.chkS nm == 0) && wi ge 1 1099511627776 && wi cl 1 1099511627776 && (rightR s ds p q && tabB s)
theorem Below.iter (w : World) (s : ByteArray) (pos : Nat) : Below w.heap.size w (w.iter s pos) := (Below.refl _ _).alloc (Nat.le_refl _) _

end Go.Proofs.YtplieplmhdfndaaGreatDoor

namespace Go.Proofs.YtplieplmhdfndaaGreatDoor
open Go.RowKit

/-- The bytes of whatever integers, each cut to its lowest 32 bits. -/
def bytesM (ws : List Int) : List Int := ws.flatMap fun v => le 4 (v % 4294967296).toNat
theorem bytesM_take (ws : List Int) (k : Nat) (h : k < ws.length) : bytesM (ws.take (k + 1)) = bytesM (ws.take k) ++ le 4 (ws.getD k 0 % 4294967296).toNat := by
  unfold bytesM
  rw [List.take_succ_eq_append_getElem h, List.flatMap_append]
  simp [List.getD, h]
theorem bytesM_eq (ws : List Int) (h : ws.all okW = true) : bytesM ws = bytesW ws := by
  unfold bytesM bytesW
  induction ws with
  | nil => rfl
  | cons v ws ih =>
    rw [List.all_cons, Bool.and_eq_true] at h
    rw [List.flatMap_cons, List.flatMap_cons, ih h.2]
    have := h.1
    simp only [okW, Bool.and_eq_true, decide_eq_true_eq] at this
    rw [Int.emod_eq_of_lt this.1 (by omega)]

end Go.Proofs.YtplieplmhdfndaaGreatDoor

namespace Go.Proofs.YtplieplmhdfndaaGreatDoor
set_option linter.unusedVariables false
set_option linter.unusedSimpArgs false
open Go.RowKit

theorem bytesW_append (xs ys : List Int) : bytesW (xs ++ ys) = bytesW xs ++ bytesW ys := by simp [bytesW]

end Go.Proofs.YtplieplmhdfndaaGreatDoor

namespace Go.Proofs.YtplieplmhdfndaaGreatDoor
set_option linter.unusedVariables false
set_option linter.unusedSimpArgs false
open Go.RowKit

theorem make64 (w : World) : (Instr.makeSlice 45 (.int .i64 0) (.int .i64 64)).run Tryz.prog w = .ok (.slice (some ⟨w.heap.size, 0, none⟩) 0 64) (w.alloc (.cells (Array.replicate 64 (.int .u8 0)) 5)) := by kernel_rfl

theorem list12 {ds : List Int} (h : ds.length = 12) : ∃ d0 d1 d2 d3 d4 d5 d6 d7 d8 d9 d10 d11, ds = [d0, d1, d2, d3, d4, d5, d6, d7, d8, d9, d10, d11] := by
  match ds, h with | [d0, d1, d2, d3, d4, d5, d6, d7, d8, d9, d10, d11], _ => exact ⟨d0, d1, d2, d3, d4, d5, d6, d7, d8, d9, d10, d11, rfl⟩
theorem far_cells {w1 w5 : World} {b : Nat} {o : Obj} (hb : b < w1.heap.size) (g5 : (w1.alloc o).drew.grownBy w5 (some w1.heap.size)) : ∀ j, w5.cell? ⟨b, j, none⟩ = w1.cell? ⟨b, j, none⟩ := fun j =>
  World.cell?_of_block (a := ⟨b, j, none⟩) ((g5.block b (show b < (w1.alloc o).heap.size by simp; omega) (by simp; omega)).trans (Below.heap_alloc w1 o b hb))
theorem below_far {w w1 w5 : World} {o : Obj} (g5 : (w1.alloc o).drew.grownBy w5 (some w1.heap.size)) (hs : w.heap.size ≤ w1.heap.size) : Below w.heap.size w1 w5 :=
  (((Below.refl w.heap.size w1).alloc hs o).drew).grown g5 (show w.heap.size ≤ (w1.alloc o).heap.size by simp; omega) (fun k h => by cases h; exact hs)

end Go.Proofs.YtplieplmhdfndaaGreatDoor
