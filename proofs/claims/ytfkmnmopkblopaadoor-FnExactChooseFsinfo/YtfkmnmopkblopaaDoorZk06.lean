/- The model's number of at most eight bytes: l02Get. The laws' own helpers over []int: a copy, two held against each other, marks. Structs and arrays of integers: their cells, and a block of the call's own. -/
import Derived.Test.YtfkmnmopkblopaaDoorZk05
import Derived.Test.YtfkmnmopkblopaaDoorZk02
import Derived.WalkLawsBesides
import Derived.Deep.QuietTactic
import Derived.BigQuiet
import Derived.Test.YtfkmnmopkblopaaDoorZk01
import Derived.Test.YtfkmnmopkblopaaDoorRows
import Derived.Deep.MidRow
import Derived.Deep.WholeRow
import Derived.Laws.CopyOwn
import Derived.Laws.ResultCell
namespace Go.Proofs.YtfkmnmopkblopaaDoor
open Go.RowKit

def gval (ts : List Int) : Nat := if 70368744177664 ≤ unle ts / 256 then 4611686018427387904 else unle ts
theorem unle_drop (ts : List Int) (j : Nat) (h : j < ts.length) : unle (ts.drop j) = (ts.getD j 0).toNat + 256 * unle (ts.drop (j + 1)) := by
  rw [List.drop_eq_getElem_cons h, unle]
  simp [List.getD, h]
theorem unle_ge (ts : List Int) : ∀ j, 1 ≤ j → j ≤ ts.length → 256 * unle (ts.drop j) ≤ unle ts
  | 0, h, _ => by omega
  | 1, _, h2 => by
    have h := unle_drop ts 0 (by omega)
    rw [List.drop_zero, Nat.zero_add] at h
    rw [h]; omega
  | j + 2, _, h2 => by
    have h := unle_drop ts (j + 1) (by omega)
    have ih := unle_ge ts (j + 1) (by omega) (by omega)
    have e : j + 1 + 1 = j + 2 := rfl
    rw [e] at h
    omega
theorem gval_big (ts : List Int) (j : Nat) (h1 : 1 ≤ j) (h2 : j ≤ ts.length) (h : 70368744177664 ≤ unle (ts.drop j)) : gval ts = 4611686018427387904 := by
  have := unle_ge ts j h1 h2
  unfold gval
  rw [if_pos (by omega)]
theorem gval_small (ts : List Int) (h : unle ts < 18014398509481984) : gval ts = unle ts := by
  unfold gval
  rw [if_neg (by omega)]

set_option maxRecDepth 100000 in
set_option maxHeartbeats 400000 in
theorem get_any (v : Value) (ts : List Int) (w : World) (h : Rd .u8 w v ts) (hl : ts.length ≤ 8) (hbd : ∀ z ∈ ts, 0 ≤ z ∧ z < 256) :
    Calls Tryd.prog 16 #[v] w fun e w' => e = .returned (.int .i64 (gval ts)) ∧ w = w' := by
  have HB := hide hbd
  clear hbd
  rcases h.parts with ⟨a, cap, rfl, hlow⟩ | ⟨b, off, cap, rfl, hbw, hcell⟩
  all_goals
    clear h
    go_enter Tryd.func16, Tryd.ntmps16
    go_wp2
    go_loop [3, 4] (fun x i => ∃ j q : Nat, j ≤ ts.length ∧ i = .int .i64 ((j : Int) - 1) ∧ x = .int .i64 q ∧ q = unle (ts.drop j) ∧ q < 18014398509481984) (fun _ i => (intOf i + 1).toNat)
    case atStart => exact ⟨ts.length, 0, by omega, rfl, rfl, by simp [unle], by omega⟩
    case round =>
      obtain ⟨j, q, hj, rfl, rfl, hq, hql⟩ := hrel
      have HQ := hide hq
      have HQL := hide hql
      clear hq hql
      by_cases hlt : 1 ≤ j
      · obtain ⟨i, rfl⟩ : ∃ i, j = i + 1 := ⟨j - 1, by omega⟩
        by_cases hbig : (70368744177664 : Int) ≤ (q : Int)
        · first
          | (exfalso; omega)
          | (have HG := hide (gval_big ts (i + 1) hlt hj (by rw [← HQ.out]; omega))
             clear hcell
             have e1 : (((i + 1 : Nat) : Int) - 1) = (i : Int) := by omega
             rw [e1]
             clear e1
             go_wp2
             go_ret
             exact ⟨ret_int (by rw [HG.out]; rfl), rfl⟩)
        · first
          | (exfalso; omega)
          | (have e1 : (((i + 1 : Nat) : Int) - 1) = (i : Int) := by omega
             rw [e1]
             have c1 := hcell i (by omega)
             have hz1 := HB.out (ts.getD i 0) (by simp [List.getD, show i < ts.length by omega])
             have HT := hide (unle_drop ts i (by omega))
             clear hcell e1
             generalize ts.getD i 0 = z at c1 HT hz1
             obtain ⟨c, rfl⟩ := Int.eq_ofNat_of_zero_le hz1.1
             obtain ⟨_, hc2⟩ := hz1
             have hc : c < 256 := by omega
             clear hc2
             rw [Int.toNat_natCast] at HT
             go_wp2
             go_round
             case rel => exact ⟨i, c + 256 * q, by omega, by go_num, by go_num, by rw [HT.out, HQ.out], by omega⟩
             case measure => first | (simp [intOf]; done) | (simp [intOf]; omega))
      · have hj0 : j = 0 := by omega
        subst hj0
        have HG := hide (show gval ts = q from by
          have h1 := HQ.out
          rw [List.drop_zero] at h1
          have h2 := HQL.out
          rw [gval_small ts (by omega), ← h1])
        go_wp2
        go_ret
        exact ⟨ret_int (by rw [HG.out]), rfl⟩
end Go.Proofs.YtfkmnmopkblopaaDoor

namespace Go.Proofs.YtfkmnmopkblopaaDoor
open Go.RowKit

theorem infoI64 : (Tryd.prog.info? 3).map (fun i => (i.zero, i.size, i.bytes)) = some (some (.int .i64 0), 1, 8) := by kernel_rfl

end Go.Proofs.YtfkmnmopkblopaaDoor

namespace Go.Proofs.YtfkmnmopkblopaaDoor
set_option linter.unusedVariables false
set_option linter.unusedSimpArgs false
open Go.RowKit

/-- Integers as the cells of a struct or an array. -/
def cellsI (ds : List Int) : Array Value := (ds.map (Value.int .i64)).toArray
theorem cellsI_size (ds : List Int) : (cellsI ds).size = ds.length := by simp [cellsI]
theorem cellsI_get (ds : List Int) (k : Nat) (h : k < ds.length) : (cellsI ds)[k]? = some (.int .i64 (ds.getD k 0)) := by simp [cellsI, List.getD, h]
theorem cellsI_one (ds : List Int) : (cellsI ds).all (·.oneCell') = true := by
  rw [Array.all_eq_true_iff_forall_mem]
  intro v hv
  simp [cellsI] at hv
  obtain ⟨z, _, rfl⟩ := hv
  rfl
/-- A block of the call's own, whole. -/
def Blk (w : World) (b : Nat) (C : Array Value) (t : TypeId) : Prop := w.heap[b]? = some (.cells C t (0, 0))
theorem Blk.lt {w : World} {b : Nat} {C : Array Value} {t : TypeId} (h : Blk w b C t) : b < w.heap.size := (Array.getElem?_eq_some_iff.1 h).1
theorem Blk.cell {w : World} {b : Nat} {C : Array Value} {t : TypeId} (h : Blk w b C t) (k : Nat) : w.cell? ⟨b, k, none⟩ = C[k]? := cell_of_row w b k C t (0, 0) h
theorem Blk.frozen {w : World} {b : Nat} {C : Array Value} {t : TypeId} (h : Blk w b C t) (k : Nat) : w.frozen? ⟨b, k, none⟩ = false := frozen_of_row w b k C t h
theorem Blk.below {w w' : World} {b B : Nat} {C : Array Value} {t : TypeId} (h : Blk w b C t) (hb : Below B w w') (hB : b < B) : Blk w' b C t := (hb.block b hB).trans h
theorem Blk.set {w : World} {b : Nat} {C : Array Value} {t : TypeId} (h : Blk w b C t) (k : Nat) (v : Value) : Blk (w.setCell ⟨b, k, none⟩ v) b (C.setIfInBounds k v) t := heap_setCell_same w b k C t v h
theorem Blk.other {w : World} {b : Nat} {C : Array Value} {t : TypeId} (h : Blk w b C t) (a : Addr) (v : Value) (hne : b ≠ a.block) : Blk (w.setCell a v) b C t := (heap_setCell_other w a b v hne).trans h
theorem Blk.alloc {w : World} {b : Nat} {C : Array Value} {t : TypeId} (h : Blk w b C t) (o : Obj) : Blk (w.alloc o) b C t := (Below.heap_alloc w o b h.lt).trans h
theorem Blk.new (w : World) (C : Array Value) (t : TypeId) : Blk (w.alloc (.cells C t)) w.heap.size C t := heap_alloc_new w _
theorem Blk.range {w : World} {b : Nat} {ds : List Int} {t : TypeId} (h : Blk w b (cellsI ds) t) (o n : Nat) (hn : o + n ≤ ds.length) : w.rangeAt b o (((ds.drop o).take n).map (Value.int .i64)) := by
  intro j v hv
  rw [h.cell (o + j)]
  have hj : j < n := by
    rcases Nat.lt_or_ge j n with h1 | h1
    · exact h1
    · rw [List.getElem?_eq_none (by simp; omega)] at hv; cases hv
  simp [cellsI, hj] at hv ⊢
  exact hv

theorem Blk.row {w : World} {b : Nat} {C : Array Value} {t : TypeId} (h : Blk w b C t) (cs : Array Value) : Blk (w.setRow b cs) b cs t := by
  have h' : w.heap[b]? = some (.cells C t (0, 0)) := h
  show (w.setRow b cs).heap[b]? = _
  simp [World.setRow, Array.getElem?_modify, h']
/-- ds laid over xs from place o on. -/
def over (xs : List Int) (o : Nat) (ds : List Int) : List Int := xs.take o ++ ds ++ xs.drop (o + ds.length)
theorem over_len (xs : List Int) (o : Nat) (ds : List Int) (h : o + ds.length ≤ xs.length) : (over xs o ds).length = xs.length := by simp [over]; omega
theorem over_cons (xs : List Int) (o : Nat) (d : Int) (ds : List Int) (h : o + (d :: ds).length ≤ xs.length) : over (xs.set o d) (o + 1) ds = over xs o (d :: ds) := by
  have hl : o < xs.length := by simp at h; omega
  unfold over
  rw [List.take_succ_eq_append_getElem (by simpa using hl), List.take_set_of_le (Nat.le_refl _), List.getElem_set_self, List.drop_set_of_lt (by omega)]
  simp [Nat.add_assoc, Nat.add_comm 1]
theorem cellsI_set (xs : List Int) (o : Nat) (d : Int) : (cellsI xs).setIfInBounds o (.int .i64 d) = cellsI (xs.set o d) := by
  unfold cellsI
  apply Array.ext'
  rw [Array.toList_setIfInBounds]
  show (xs.map (Value.int .i64)).set o (Value.int .i64 d) = _
  rw [← List.map_set]
theorem Blk.cells {b : Nat} {t : TypeId} : ∀ (ds : List Int) {w : World} {xs : List Int} (o : Nat), Blk w b (cellsI xs) t → o + ds.length ≤ xs.length → Blk (w.setCells b o (ds.map (Value.int .i64))) b (cellsI (over xs o ds)) t
  | [], w, xs, o, h, _ => by simpa [over, World.setCells] using h
  | d :: ds, w, xs, o, h, hl => by
    have h1 := h.set o (.int .i64 d)
    rw [cellsI_set] at h1
    have h2 := Blk.cells ds (o + 1) h1 (by simp at hl ⊢; omega)
    rw [over_cons xs o d ds hl] at h2
    exact h2
theorem Blk.cells_other {b b' : Nat} {t : TypeId} {C : Array Value} : ∀ (vs : List Value) {w : World} (o : Nat), Blk w b' C t → b' ≠ b → Blk (w.setCells b o vs) b' C t
  | [], _, _, h, _ => h
  | v :: vs, _, o, h, hne => Blk.cells_other vs (o + 1) (h.other ⟨b, o, none⟩ v hne) hne
theorem below_cells {B b : Nat} {w0 : World} (hB : B ≤ b) : ∀ (vs : List Value) {w : World} (o : Nat), Below B w0 w → Below B w0 (w.setCells b o vs)
  | [], _, _, h => h
  | v :: vs, _, o, h => below_cells hB vs (o + 1) (h.setCell (p := ⟨b, o, none⟩) hB v)
theorem Blk.there {w : World} {b : Nat} {C : Array Value} {t : TypeId} (h : Blk w b C t) (o n : Nat) (hn : o + n ≤ C.size) : w.there b o n := fun j hj =>
  ⟨by rw [h.cell (o + j), Array.getElem?_eq_getElem (by omega)]; rfl, h.frozen _⟩

theorem set_cells (ds : List Int) (k n : Nat) (hk : k < n) (hd : ds.length = n) : (cellsI (ds.take k ++ List.replicate (n - k) 0)).setIfInBounds k (.int .i64 (ds.getD k 0)) = cellsI (ds.take (k + 1) ++ List.replicate (n - (k + 1)) 0) := by
  unfold cellsI
  apply Array.ext'
  rw [Array.toList_setIfInBounds]
  show ((ds.take k ++ List.replicate (n - k) 0).map (Value.int .i64)).set k (Value.int .i64 (ds.getD k 0)) = _
  rw [← List.map_set, set_fill ds (ds.getD k 0) 0 k n hk hd (by simp [List.getD, show k < ds.length by omega])]


theorem results_row_tmp {P : Program} {fn : Func} {p u : Tmp} {ty : TypeId} (h : fn.results = #[.cell p ty, .tmp u]) (tmps : Array Value) (w : World) (g : Nat) (t : TypeId) (cs : Array Value) (fr : Nat × Nat) (d : TypeDesc) (x : Value)
    (hp : tmps.getD p undef = .pointer (some ⟨g, 0, none⟩)) (hx : tmps.getD u undef = x) (hg : w.heap[g]? = some (.cells cs t fr))
    (hu : P.underlying ty = some d) (hd : (match d with | .struct _ | .array _ _ => true | _ => false) = true) (hi : (P.info? ty).map (·.size) = some cs.size) :
    (results fn tmps).run P w = .ok (.tuple #[.agg cs, x]) w := by
  rw [results_cell_tmp h, hp, hx]
  simp [asAddr, run_loadVar_row w g t ty cs fr d hg hu hd hi, Result.andThen]
theorem setRow_block (w : World) (g : Nat) (cs : Array Value) (k : Nat) (h : k ≠ g) : (w.setRow g cs).heap[k]? = w.heap[k]? := by
  simp [World.setRow, Array.getElem?_modify, Ne.symm h]
end Go.Proofs.YtfkmnmopkblopaaDoor
