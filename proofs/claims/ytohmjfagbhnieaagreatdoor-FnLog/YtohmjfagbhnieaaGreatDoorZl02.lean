/- Structs and arrays of integers: their cells, and a block of the call's own. Structs and arrays of integers by value: a copy of twelve, a copy of a root. A copy of a root: toRoot. Plain facts on lists, marks and worlds that the laws' helpers share. The laws' own helpers over []byte: a copy, two held against each other. The laws' own marks on []byte: laid into what is owned, and found again. -/
import Derived.Test.YtohmjfagbhnieaaGreatDoorZl01
import Derived.Test.YtohmjfagbhnieaaGreatDoorRows
import Derived.WalkLawsBesides
import Derived.Deep.MidRow
import Derived.Deep.WholeRow
import Derived.Laws.CopyOwn
import Derived.Laws.ResultCell
import Derived.Deep.QuietTactic
import Derived.BigQuiet
namespace Go.Proofs.YtohmjfagbhnieaaGreatDoor
set_option linter.unusedVariables false
set_option linter.unusedSimpArgs false
open Go.RowKit

/-- Integers as the cells of a struct or an array. -/
def cellsI (ds : List Int) : Array Value := (ds.map (Value.int .i64)).toArray
theorem cellsI_size (ds : List Int) : (cellsI ds).size = ds.length := by simp [cellsI]
theorem cellsI_get (ds : List Int) (k : Nat) (h : k < ds.length) : (cellsI ds)[k]? = some (.int .i64 (ds.getD k 0)) := by simp [cellsI, List.getD, h]
theorem cellsI_one (ds : List Int) : (cellsI ds).all (·.oneCell') = true := by
  rw [Array.all_eq_true_iff_forall_mem]
  intro v hv
  simp [cellsI] at hv
  obtain ⟨z, _, rfl⟩ := hv
  rfl
/-- A block of the call's own, whole. -/
def Blk (w : World) (b : Nat) (C : Array Value) (t : TypeId) : Prop := w.heap[b]? = some (.cells C t (0, 0))
theorem Blk.lt {w : World} {b : Nat} {C : Array Value} {t : TypeId} (h : Blk w b C t) : b < w.heap.size := (Array.getElem?_eq_some_iff.1 h).1
theorem Blk.cell {w : World} {b : Nat} {C : Array Value} {t : TypeId} (h : Blk w b C t) (k : Nat) : w.cell? ⟨b, k, none⟩ = C[k]? := cell_of_row w b k C t (0, 0) h
theorem Blk.frozen {w : World} {b : Nat} {C : Array Value} {t : TypeId} (h : Blk w b C t) (k : Nat) : w.frozen? ⟨b, k, none⟩ = false := frozen_of_row w b k C t h
theorem Blk.below {w w' : World} {b B : Nat} {C : Array Value} {t : TypeId} (h : Blk w b C t) (hb : Below B w w') (hB : b < B) : Blk w' b C t := (hb.block b hB).trans h
theorem Blk.set {w : World} {b : Nat} {C : Array Value} {t : TypeId} (h : Blk w b C t) (k : Nat) (v : Value) : Blk (w.setCell ⟨b, k, none⟩ v) b (C.setIfInBounds k v) t := heap_setCell_same w b k C t v h
theorem Blk.other {w : World} {b : Nat} {C : Array Value} {t : TypeId} (h : Blk w b C t) (a : Addr) (v : Value) (hne : b ≠ a.block) : Blk (w.setCell a v) b C t := (heap_setCell_other w a b v hne).trans h
theorem Blk.alloc {w : World} {b : Nat} {C : Array Value} {t : TypeId} (h : Blk w b C t) (o : Obj) : Blk (w.alloc o) b C t := (Below.heap_alloc w o b h.lt).trans h
theorem Blk.new (w : World) (C : Array Value) (t : TypeId) : Blk (w.alloc (.cells C t)) w.heap.size C t := heap_alloc_new w _
theorem Blk.range {w : World} {b : Nat} {ds : List Int} {t : TypeId} (h : Blk w b (cellsI ds) t) (o n : Nat) (hn : o + n ≤ ds.length) : w.rangeAt b o (((ds.drop o).take n).map (Value.int .i64)) := by
  intro j v hv
  rw [h.cell (o + j)]
  have hj : j < n := by
    rcases Nat.lt_or_ge j n with h1 | h1
    · exact h1
    · rw [List.getElem?_eq_none (by simp; omega)] at hv; cases hv
  simp [cellsI, hj] at hv ⊢
  exact hv

theorem Blk.row {w : World} {b : Nat} {C : Array Value} {t : TypeId} (h : Blk w b C t) (cs : Array Value) : Blk (w.setRow b cs) b cs t := by
  have h' : w.heap[b]? = some (.cells C t (0, 0)) := h
  show (w.setRow b cs).heap[b]? = _
  simp [World.setRow, Array.getElem?_modify, h']
/-- ds laid over xs from place o on. -/
def over (xs : List Int) (o : Nat) (ds : List Int) : List Int := xs.take o ++ ds ++ xs.drop (o + ds.length)
theorem over_len (xs : List Int) (o : Nat) (ds : List Int) (h : o + ds.length ≤ xs.length) : (over xs o ds).length = xs.length := by simp [over]; omega
theorem over_cons (xs : List Int) (o : Nat) (d : Int) (ds : List Int) (h : o + (d :: ds).length ≤ xs.length) : over (xs.set o d) (o + 1) ds = over xs o (d :: ds) := by
  have hl : o < xs.length := by simp at h; omega
  unfold over
  rw [List.take_succ_eq_append_getElem (by simpa using hl), List.take_set_of_le (Nat.le_refl _), List.getElem_set_self, List.drop_set_of_lt (by omega)]
  simp [Nat.add_assoc, Nat.add_comm 1]
theorem cellsI_set (xs : List Int) (o : Nat) (d : Int) : (cellsI xs).setIfInBounds o (.int .i64 d) = cellsI (xs.set o d) := by
  unfold cellsI
  apply Array.ext'
  rw [Array.toList_setIfInBounds]
  show (xs.map (Value.int .i64)).set o (Value.int .i64 d) = _
  rw [← List.map_set]
theorem Blk.cells {b : Nat} {t : TypeId} : ∀ (ds : List Int) {w : World} {xs : List Int} (o : Nat), Blk w b (cellsI xs) t → o + ds.length ≤ xs.length → Blk (w.setCells b o (ds.map (Value.int .i64))) b (cellsI (over xs o ds)) t
  | [], w, xs, o, h, _ => by simpa [over, World.setCells] using h
  | d :: ds, w, xs, o, h, hl => by
    have h1 := h.set o (.int .i64 d)
    rw [cellsI_set] at h1
    have h2 := Blk.cells ds (o + 1) h1 (by simp at hl ⊢; omega)
    rw [over_cons xs o d ds hl] at h2
    exact h2
theorem Blk.cells_other {b b' : Nat} {t : TypeId} {C : Array Value} : ∀ (vs : List Value) {w : World} (o : Nat), Blk w b' C t → b' ≠ b → Blk (w.setCells b o vs) b' C t
  | [], _, _, h, _ => h
  | v :: vs, _, o, h, hne => Blk.cells_other vs (o + 1) (h.other ⟨b, o, none⟩ v hne) hne
theorem below_cells {B b : Nat} {w0 : World} (hB : B ≤ b) : ∀ (vs : List Value) {w : World} (o : Nat), Below B w0 w → Below B w0 (w.setCells b o vs)
  | [], _, _, h => h
  | v :: vs, _, o, h => below_cells hB vs (o + 1) (h.setCell (p := ⟨b, o, none⟩) hB v)
theorem Blk.there {w : World} {b : Nat} {C : Array Value} {t : TypeId} (h : Blk w b C t) (o n : Nat) (hn : o + n ≤ C.size) : w.there b o n := fun j hj =>
  ⟨by rw [h.cell (o + j), Array.getElem?_eq_getElem (by omega)]; rfl, h.frozen _⟩

theorem set_cells (ds : List Int) (k n : Nat) (hk : k < n) (hd : ds.length = n) : (cellsI (ds.take k ++ List.replicate (n - k) 0)).setIfInBounds k (.int .i64 (ds.getD k 0)) = cellsI (ds.take (k + 1) ++ List.replicate (n - (k + 1)) 0) := by
  unfold cellsI
  apply Array.ext'
  rw [Array.toList_setIfInBounds]
  show ((ds.take k ++ List.replicate (n - k) 0).map (Value.int .i64)).set k (Value.int .i64 (ds.getD k 0)) = _
  rw [← List.map_set, set_fill ds (ds.getD k 0) 0 k n hk hd (by simp [List.getD, show k < ds.length by omega])]


theorem results_row_tmp {P : Program} {fn : Func} {p u : Tmp} {ty : TypeId} (h : fn.results = #[.cell p ty, .tmp u]) (tmps : Array Value) (w : World) (g : Nat) (t : TypeId) (cs : Array Value) (fr : Nat × Nat) (d : TypeDesc) (x : Value)
    (hp : tmps.getD p undef = .pointer (some ⟨g, 0, none⟩)) (hx : tmps.getD u undef = x) (hg : w.heap[g]? = some (.cells cs t fr))
    (hu : P.underlying ty = some d) (hd : (match d with | .struct _ | .array _ _ => true | _ => false) = true) (hi : (P.info? ty).map (·.size) = some cs.size) :
    (results fn tmps).run P w = .ok (.tuple #[.agg cs, x]) w := by
  rw [results_cell_tmp h, hp, hx]
  simp [asAddr, run_loadVar_row w g t ty cs fr d hg hu hd hi, Result.andThen]
theorem setRow_block (w : World) (g : Nat) (cs : Array Value) (k : Nat) (h : k ≠ g) : (w.setRow g cs).heap[k]? = w.heap[k]? := by
  simp [World.setRow, Array.getElem?_modify, Ne.symm h]
end Go.Proofs.YtohmjfagbhnieaaGreatDoor

namespace Go.Proofs.YtohmjfagbhnieaaGreatDoor
set_option linter.unusedVariables false
set_option linter.unusedSimpArgs false
open Go.RowKit

end Go.Proofs.YtohmjfagbhnieaaGreatDoor

namespace Go.Proofs.YtohmjfagbhnieaaGreatDoor
set_option linter.unusedVariables false
set_option linter.unusedSimpArgs false
open Go.RowKit

/-- The fifteen integers of a root. -/
def rootI (s : Int) (ds : List Int) (p q : Int) : List Int := s :: (ds ++ [p, q])
theorem rootI_len (s : Int) (ds : List Int) (p q : Int) (hd : ds.length = 12) : (rootI s ds p q).length = 15 := by simp [rootI, hd]
theorem rootI_get13 (s : Int) (ds : List Int) (p q : Int) (hd : ds.length = 12) : (cellsI (rootI s ds p q))[13]? = some (.int .i64 p) := by
  rw [cellsI_get _ _ (by rw [rootI_len s ds p q hd]; omega)]
  match ds, hd with | [_, _, _, _, _, _, _, _, _, _, _, _], _ => rfl
theorem rootI_get14 (s : Int) (ds : List Int) (p q : Int) (hd : ds.length = 12) : (cellsI (rootI s ds p q))[14]? = some (.int .i64 q) := by
  rw [cellsI_get _ _ (by rw [rootI_len s ds p q hd]; omega)]
  match ds, hd with | [_, _, _, _, _, _, _, _, _, _, _, _], _ => rfl
theorem root_build (s : Int) (ds : List Int) (p q : Int) (hd : ds.length = 12) : ((over (s :: List.replicate 14 0) 1 ds).set 13 p).set 14 q = rootI s ds p q := by
  match ds, hd with | [_, _, _, _, _, _, _, _, _, _, _, _], _ => rfl
theorem root_range (s : Int) (ds : List Int) (p q : Int) (hd : ds.length = 12) : ((rootI s ds p q).drop 1).take 12 = ds := by
  match ds, hd with | [_, _, _, _, _, _, _, _, _, _, _, _], _ => rfl

theorem over_at {w2 : World} {b : Nat} {t : TypeId} (s : Int) (ds : List Int) (hd : ds.length = 12) (h : Blk w2 b (cellsI (over (s :: List.replicate 14 0) 1 ds)) t) (k : Nat) (hk : k < 15) : ∃ u, w2.cell? ⟨b, k, none⟩ = some u := by
  rw [h.cell k]
  exact ⟨_, Array.getElem?_eq_getElem (by rw [cellsI_size, over_len _ _ _ (by simp [hd])]; simpa using hk)⟩

end Go.Proofs.YtohmjfagbhnieaaGreatDoor

namespace Go.Proofs.YtohmjfagbhnieaaGreatDoor
open Go.RowKit

/-- The same of values whose slots the walk can read: one of so many elements. -/
def At (k : IntKind) (w : World) (v : Value) (n : Nat) (zs : List Int) : Prop :=
  (∃ a cap, v = .slice a n cap ∧ n < 1) ∨ ∃ b off cap, v = .slice (some ⟨b, off, none⟩) n cap ∧ b < w.heap.size ∧ ∀ i, i < n → w.cell? ⟨b, off + i, none⟩ = some (.int k (zs.getD i 0))

theorem take_eq_step (xs ys : List Int) (k : Nat) (hx : k < xs.length) (hy : k < ys.length) (h : xs.take k = ys.take k) (he : xs.getD k 0 = ys.getD k 0) : xs.take (k + 1) = ys.take (k + 1) := by
  rw [List.take_succ_eq_append_getElem hx, List.take_succ_eq_append_getElem hy, h]
  simp only [List.getD, List.getElem?_eq_getElem hx, List.getElem?_eq_getElem hy, Option.getD_some] at he
  rw [he]

/-- The marks from k on: n bytes. -/
def mk8 (k n : Nat) : List Int := (List.range n).map fun i => ((k + i : Nat) : Int) % 256
/-- The marks from k on: n integers. -/
def mk64 (k n : Nat) : List Int := (List.range n).map fun i => ((k + i : Nat) : Int)
theorem mk8_len (k n : Nat) : (mk8 k n).length = n := by simp [mk8]
theorem mk64_len (k n : Nat) : (mk64 k n).length = n := by simp [mk64]
theorem mk8_get (k n i : Nat) (h : i < n) : (mk8 k n)[i]? = some (((k + i : Nat) : Int) % 256) := by simp [mk8, h]
theorem mk64_get (k n i : Nat) (h : i < n) : (mk64 k n)[i]? = some ((k + i : Nat) : Int) := by simp [mk64, h]
theorem mk8_getD (k n i : Nat) (h : i < n) : (mk8 k n).getD i 0 = ((k + i : Nat) : Int) % 256 := by simp [List.getD, mk8_get k n i h]
theorem mk64_getD (k n i : Nat) (h : i < n) : (mk64 k n).getD i 0 = ((k + i : Nat) : Int) := by simp [List.getD, mk64_get k n i h]

theorem set_over {α : Type} (ms xs : List α) (z : α) (k n : Nat) (hk : k < n) (hm : ms.length = n) (hx : xs.length = n) (he : ms[k]? = some z) :
    (ms.take k ++ xs.drop k).set k z = ms.take (k + 1) ++ xs.drop (k + 1) := by
  apply List.ext_getElem?
  intro i
  rw [List.getElem?_set]
  by_cases hik : k = i
  · subst hik
    rw [if_pos rfl, if_pos (by simp; omega), List.getElem?_append_left (by simp; omega), List.getElem?_take, if_pos (by omega), he]
  · rw [if_neg hik]
    by_cases hlt : i < k
    · rw [List.getElem?_append_left (by simp; omega), List.getElem?_append_left (by simp; omega), List.getElem?_take, List.getElem?_take, if_pos hlt, if_pos (by omega)]
    · rw [List.getElem?_append_right (by simp; omega), List.getElem?_append_right (by simp; omega), List.getElem?_drop, List.getElem?_drop]
      simp only [List.length_take]
      congr 1
      omega

theorem grownBy_trans {w w1 w2 : World} {r : Option Nat} (h1 : w.grownBy w1 r) (h2 : w1.grownBy w2 r) : w.grownBy w2 r :=
  ⟨h2.os.trans h1.os, h2.tape.trans h1.tape, h2.output.trans h1.output, Nat.le_trans h1.size h2.size, fun k hk hn => (h2.block k (Nat.lt_of_lt_of_le hk h1.size) hn).trans (h1.block k hk hn)⟩

end Go.Proofs.YtohmjfagbhnieaaGreatDoor

namespace Go.Proofs.YtohmjfagbhnieaaGreatDoor
open Go.RowKit

theorem infoU8 : (Tryz.prog.info? 5).map (fun i => (i.zero, i.size, i.bytes)) = some (some (.int .u8 0), 1, 1) := by kernel_rfl

end Go.Proofs.YtohmjfagbhnieaaGreatDoor

namespace Go.Proofs.YtohmjfagbhnieaaGreatDoor
open Go.RowKit

end Go.Proofs.YtohmjfagbhnieaaGreatDoor
