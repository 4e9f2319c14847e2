/- The program's EncodeRoot: it gives encR, in memory of its own. The program lays an inode down: layZeros, layInode. -/
import Derived.Test.YtmmhkjpkidljlaaDoorZc24
import Derived.Outline
import Derived.Test.YtmmhkjpkidljlaaDoorZc19
import Derived.Deep.RegionHeld3
namespace Go.Proofs.YtmmhkjpkidljlaaDoor
set_option linter.unusedVariables false
set_option linter.unusedSimpArgs false
open Go.RowKit

theorem make64 (w : World) : (Instr.makeSlice 48 (.int .i64 0) (.int .i64 64)).run Tryd.prog w = .ok (.slice (some ⟨w.heap.size, 0, none⟩) 0 64) (w.alloc (.cells (Array.replicate 64 (.int .u8 0)) 5)) := by kernel_rfl

theorem list12 {ds : List Int} (h : ds.length = 12) : ∃ d0 d1 d2 d3 d4 d5 d6 d7 d8 d9 d10 d11, ds = [d0, d1, d2, d3, d4, d5, d6, d7, d8, d9, d10, d11] := by
  match ds, h with | [d0, d1, d2, d3, d4, d5, d6, d7, d8, d9, d10, d11], _ => exact ⟨d0, d1, d2, d3, d4, d5, d6, d7, d8, d9, d10, d11, rfl⟩
theorem far_cells {w1 w5 : World} {b : Nat} {o : Obj} (hb : b < w1.heap.size) (g5 : (w1.alloc o).drew.grownBy w5 (some w1.heap.size)) : ∀ j, w5.cell? ⟨b, j, none⟩ = w1.cell? ⟨b, j, none⟩ := fun j =>
  World.cell?_of_block (a := ⟨b, j, none⟩) ((g5.block b (show b < (w1.alloc o).heap.size by simp; omega) (by simp; omega)).trans (Below.heap_alloc w1 o b hb))
theorem below_far {w w1 w5 : World} {o : Obj} (g5 : (w1.alloc o).drew.grownBy w5 (some w1.heap.size)) (hs : w.heap.size ≤ w1.heap.size) : Below w.heap.size w1 w5 :=
  (((Below.refl w.heap.size w1).alloc hs o).drew).grown g5 (show w.heap.size ≤ (w1.alloc o).heap.size by simp; omega) (fun k h => by cases h; exact hs)

end Go.Proofs.YtmmhkjpkidljlaaDoor

namespace Go.Proofs.YtmmhkjpkidljlaaDoor
set_option linter.unusedVariables false
set_option linter.unusedSimpArgs false
open Go.RowKit

set_option maxRecDepth 100000 in
set_option maxHeartbeats 400000 in
theorem layZeros_any (g base k cap m : Nat) (xs : List Value) (w : World) (h : w.ownsRow base 5 1 (.slice (some ⟨g, 0, none⟩) k cap) k xs) (hk : k ≤ m) (hm : m ≤ cap) (hcap : cap ≤ 140737488355328) :
    Calls Tryd.prog 78 #[.slice (some ⟨g, 0, none⟩) k cap, .int .i64 m] w fun e w' => e = .returned (.slice (some ⟨g, 0, none⟩) m cap) ∧ w'.ownsRow base 5 1 (.slice (some ⟨g, 0, none⟩) m cap) m (xs ++ (List.replicate (m - k) (0 : Int)).map (Value.int .u8)) ∧ w.grownBy w' (some g) := by
  obtain ⟨i0, hi, hz0, hz1, hz2⟩ := info_parts infoU8
  have hgl := h.lt g rfl
  go_enter Tryd.func78, Tryd.ntmps78
  go_wp2
  go_loopw [0] (fun v wr => ∃ j : Nat, k + j ≤ m ∧ v = .slice (some ⟨g, 0, none⟩) (k + j) cap ∧ wr.ownsRow base 5 1 (.slice (some ⟨g, 0, none⟩) (k + j) cap) (k + j) (xs ++ (List.replicate j (0 : Int)).map (Value.int .u8)) ∧ w.grownBy wr (some g)) (fun v _ => m - (match v with | .slice _ l _ => l | _ => 0))
  case atStart => exact ⟨0, by omega, rfl, by simpa using h, World.grownBy.refl _ _⟩
  case round =>
    clear h
    obtain ⟨j, hj, rfl, hown, hgr⟩ := hrel
    have hsz := hgr.size
    by_cases hlt : k + j < m
    · go_wp2_with (at_builtin; refine wpList_append_fits _ rfl _ _ 48 rfl base 5 i0 1 Tryd.underlying48 hi hz1 g (k + j) cap _ rfl (hown.alloc _) ⟨wr.heap.size, 0, none⟩ 1 1 [.int .u8 0] rfl rfl (cell_one_new _ _ _) (one_u8 _) (by omega) ?_; intro w1 hown1 hgr1)
      have HW := hide (show w1.ownsRow base 5 1 (.slice (some ⟨g, 0, none⟩) (k + (j + 1)) cap) (k + (j + 1)) (xs ++ (List.replicate (j + 1) (0 : Int)).map (Value.int .u8)) ∧ w.grownBy w1 (some g) from by
        refine ⟨?_, grownBy_trans hgr (grownBy_trans (World.grownBy_alloc _ _ _) hgr1)⟩
        rw [List.replicate_succ', List.map_append, ← List.append_assoc]
        exact hown1)
      clear hown hown1 hgr hgr1
      go_roundw
      case rel => exact ⟨j + 1, by omega, rfl, HW.out.1, HW.out.2⟩
      case measure => show m - (k + (j + 1)) < m - (k + j); omega
    · have HO := hide (And.intro hown hgr)
      have e : j = m - k := by omega
      clear hown hgr
      go_wp2
      go_ret
      have h2 := HO.out
      rw [show k + j = m by omega, e] at h2
      exact ⟨by rw [show k + j = m by omega]; rfl, h2.1, h2.2⟩

theorem wrap_u8 (n : Nat) (h : n < 256) : IntKind.u8.wrap (n : Int) = n := by
  simp only [IntKind.wrap, IntKind.bits, IntKind.signed]
  simp
  omega

/-- The bytes of an inode. -/
def bytesIno (a0 a1 a2 a3 a4 a5 a6 a7 a8 : Nat) (s : Int) (ds : List Int) (p q : Int) : List Int := le 1 a0 ++ List.replicate 1 0 ++ le 2 a1 ++ le 2 a2 ++ le 2 a3 ++ le 2 a4 ++ List.replicate 2 0 ++ le 4 a5 ++ le 8 a6 ++ le 8 a7 ++ le 8 a8 ++ bytesR s ds p q ++ List.replicate 24 0
theorem bytesIno_len (a0 a1 a2 a3 a4 a5 a6 a7 a8 : Nat) (s : Int) (ds : List Int) (p q : Int) (hd : ds.length = 12) : (bytesIno a0 a1 a2 a3 a4 a5 a6 a7 a8 s ds p q).length = 128 := by
  unfold bytesIno
  simp only [List.length_append, le_len, List.length_replicate, bytesR_len s ds p q hd]

/-- What the laying keeps: the row so far, the boxed inode, all that is older. -/
structure Li (w wr : World) (g k : Nat) (xs : List Int) (C : Array Value) (t : TypeId) : Prop where
  own : wr.ownsRow w.heap.size 5 1 (.slice (some ⟨g, 0, none⟩) k 128) k (xs.map (Value.int .u8))
  blk : Blk wr w.heap.size C t
  old : Below w.heap.size w wr
  lt : w.heap.size < g
theorem Li.step {w wr w' : World} {g k k' : Nat} {xs ys : List Int} {C : Array Value} {t : TypeId} (h : Li w wr g k xs C t) (ho : w'.ownsRow w.heap.size 5 1 (.slice (some ⟨g, 0, none⟩) k' 128) k' (xs.map (Value.int .u8) ++ ys.map (Value.int .u8))) (hg : wr.grownBy w' (some g)) : Li w w' g k' (xs ++ ys) C t :=
  ⟨by rw [List.map_append]; exact ho, (hg.block _ h.blk.lt (by have := h.lt; simp; omega)).trans h.blk, h.old.grown hg h.old.size (fun k e => by cases e; exact Nat.le_of_lt h.lt), h.lt⟩

theorem make128 (w : World) : (Instr.makeSlice 48 (.int .i64 0) (.int .i64 128)).run Tryd.prog w = .ok (.slice (some ⟨w.heap.size, 0, none⟩) 0 128) (w.alloc (.cells (Array.replicate 128 (.int .u8 0)) 5)) := by kernel_rfl

end Go.Proofs.YtmmhkjpkidljlaaDoor
