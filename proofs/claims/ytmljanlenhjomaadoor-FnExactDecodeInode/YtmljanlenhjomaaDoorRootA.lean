/- Structs and arrays of integers by value: a copy of twelve, a copy of a root. -/
import Derived.Test.YtmljanlenhjomaaDoorBase
import Derived.Test.YtmljanlenhjomaaDoorRows
import Derived.WalkLawsBesides
import Derived.Deep.MidRow
import Derived.Deep.WholeRow
import Derived.Laws.CopyOwn

namespace Go.Proofs.YtmljanlenhjomaaDoor
set_option linter.unusedVariables false
set_option linter.unusedSimpArgs false
open Go.RowKit

/-- Integers as the cells of a struct or an array. -/
def cellsI (ds : List Int) : Array Value := (ds.map (Value.int .i64)).toArray
theorem cellsI_size (ds : List Int) : (cellsI ds).size = ds.length := by simp [cellsI]
theorem cellsI_get (ds : List Int) (k : Nat) (h : k < ds.length) : (cellsI ds)[k]? = some (.int .i64 (ds.getD k 0)) := by simp [cellsI, List.getD, h]
theorem cellsI_one (ds : List Int) : (cellsI ds).all (·.oneCell') = true := by
  rw [Array.all_eq_true_iff_forall_mem]
  intro v hv
  simp [cellsI] at hv
  obtain ⟨z, _, rfl⟩ := hv
  rfl
/-- A block of the call's own, whole. -/
def Blk (w : World) (b : Nat) (C : Array Value) (t : TypeId) : Prop := w.heap[b]? = some (.cells C t (0, 0))
theorem Blk.lt {w : World} {b : Nat} {C : Array Value} {t : TypeId} (h : Blk w b C t) : b < w.heap.size := (Array.getElem?_eq_some_iff.1 h).1
theorem Blk.cell {w : World} {b : Nat} {C : Array Value} {t : TypeId} (h : Blk w b C t) (k : Nat) : w.cell? ⟨b, k, none⟩ = C[k]? := cell_of_row w b k C t (0, 0) h
theorem Blk.frozen {w : World} {b : Nat} {C : Array Value} {t : TypeId} (h : Blk w b C t) (k : Nat) : w.frozen? ⟨b, k, none⟩ = false := frozen_of_row w b k C t h
theorem Blk.below {w w' : World} {b B : Nat} {C : Array Value} {t : TypeId} (h : Blk w b C t) (hb : Below B w w') (hB : b < B) : Blk w' b C t := (hb.block b hB).trans h
theorem Blk.set {w : World} {b : Nat} {C : Array Value} {t : TypeId} (h : Blk w b C t) (k : Nat) (v : Value) : Blk (w.setCell ⟨b, k, none⟩ v) b (C.setIfInBounds k v) t := heap_setCell_same w b k C t v h
theorem Blk.other {w : World} {b : Nat} {C : Array Value} {t : TypeId} (h : Blk w b C t) (a : Addr) (v : Value) (hne : b ≠ a.block) : Blk (w.setCell a v) b C t := (heap_setCell_other w a b v hne).trans h
theorem Blk.alloc {w : World} {b : Nat} {C : Array Value} {t : TypeId} (h : Blk w b C t) (o : Obj) : Blk (w.alloc o) b C t := (Below.heap_alloc w o b h.lt).trans h
theorem Blk.new (w : World) (C : Array Value) (t : TypeId) : Blk (w.alloc (.cells C t)) w.heap.size C t := heap_alloc_new w _
theorem Blk.range {w : World} {b : Nat} {ds : List Int} {t : TypeId} (h : Blk w b (cellsI ds) t) (o n : Nat) (hn : o + n ≤ ds.length) : w.rangeAt b o (((ds.drop o).take n).map (Value.int .i64)) := by
  intro j v hv
  rw [h.cell (o + j)]
  have hj : j < n := by
    rcases Nat.lt_or_ge j n with h1 | h1
    · exact h1
    · rw [List.getElem?_eq_none (by simp; omega)] at hv; cases hv
  simp [cellsI, hj] at hv ⊢
  exact hv

theorem Blk.row {w : World} {b : Nat} {C : Array Value} {t : TypeId} (h : Blk w b C t) (cs : Array Value) : Blk (w.setRow b cs) b cs t := by
  have h' : w.heap[b]? = some (.cells C t (0, 0)) := h
  show (w.setRow b cs).heap[b]? = _
  simp [World.setRow, Array.getElem?_modify, h']
/-- ds laid over xs from place o on. -/
def over (xs : List Int) (o : Nat) (ds : List Int) : List Int := xs.take o ++ ds ++ xs.drop (o + ds.length)
theorem over_len (xs : List Int) (o : Nat) (ds : List Int) (h : o + ds.length ≤ xs.length) : (over xs o ds).length = xs.length := by simp [over]; omega
theorem over_cons (xs : List Int) (o : Nat) (d : Int) (ds : List Int) (h : o + (d :: ds).length ≤ xs.length) : over (xs.set o d) (o + 1) ds = over xs o (d :: ds) := by
  have hl : o < xs.length := by simp at h; omega
  unfold over
  rw [List.take_succ_eq_append_getElem (by simpa using hl), List.take_set_of_le (Nat.le_refl _), List.getElem_set_self, List.drop_set_of_lt (by omega)]
  simp [Nat.add_assoc, Nat.add_comm 1]
theorem cellsI_set (xs : List Int) (o : Nat) (d : Int) : (cellsI xs).setIfInBounds o (.int .i64 d) = cellsI (xs.set o d) := by
  unfold cellsI
  apply Array.ext'
  rw [Array.toList_setIfInBounds]
  show (xs.map (Value.int .i64)).set o (Value.int .i64 d) = _
  rw [← List.map_set]
theorem Blk.cells {b : Nat} {t : TypeId} : ∀ (ds : List Int) {w : World} {xs : List Int} (o : Nat), Blk w b (cellsI xs) t → o + ds.length ≤ xs.length → Blk (w.setCells b o (ds.map (Value.int .i64))) b (cellsI (over xs o ds)) t
  | [], w, xs, o, h, _ => by simpa [over, World.setCells] using h
  | d :: ds, w, xs, o, h, hl => by
    have h1 := h.set o (.int .i64 d)
    rw [cellsI_set] at h1
    have h2 := Blk.cells ds (o + 1) h1 (by simp at hl ⊢; omega)
    rw [over_cons xs o d ds hl] at h2
    exact h2
theorem Blk.cells_other {b b' : Nat} {t : TypeId} {C : Array Value} : ∀ (vs : List Value) {w : World} (o : Nat), Blk w b' C t → b' ≠ b → Blk (w.setCells b o vs) b' C t
  | [], _, _, h, _ => h
  | v :: vs, _, o, h, hne => Blk.cells_other vs (o + 1) (h.other ⟨b, o, none⟩ v hne) hne
theorem below_cells {B b : Nat} {w0 : World} (hB : B ≤ b) : ∀ (vs : List Value) {w : World} (o : Nat), Below B w0 w → Below B w0 (w.setCells b o vs)
  | [], _, _, h => h
  | v :: vs, _, o, h => below_cells hB vs (o + 1) (h.setCell (p := ⟨b, o, none⟩) hB v)
theorem Blk.there {w : World} {b : Nat} {C : Array Value} {t : TypeId} (h : Blk w b C t) (o n : Nat) (hn : o + n ≤ C.size) : w.there b o n := fun j hj =>
  ⟨by rw [h.cell (o + j), Array.getElem?_eq_getElem (by omega)]; rfl, h.frozen _⟩

theorem info12 : (Tryd.prog.info? 36).map (·.size) = some 12 := by kernel_rfl
theorem info15 : (Tryd.prog.info? 40).map (·.size) = some 15 := by kernel_rfl

theorem set_cells (ds : List Int) (k n : Nat) (hk : k < n) (hd : ds.length = n) : (cellsI (ds.take k ++ List.replicate (n - k) 0)).setIfInBounds k (.int .i64 (ds.getD k 0)) = cellsI (ds.take (k + 1) ++ List.replicate (n - (k + 1)) 0) := by
  unfold cellsI
  apply Array.ext'
  rw [Array.toList_setIfInBounds]
  show ((ds.take k ++ List.replicate (n - k) 0).map (Value.int .i64)).set k (Value.int .i64 (ds.getD k 0)) = _
  rw [← List.map_set, set_fill ds (ds.getD k 0) 0 k n hk hd (by simp [List.getD, show k < ds.length by omega])]

set_option maxRecDepth 100000 in
set_option maxHeartbeats 400000 in
theorem toIntA12_any (ds : List Int) (w : World) (hd : ds.length = 12) :
    Calls Tryd.prog 61 #[.agg (cellsI ds)] w fun e w' => e = .returned (.agg (cellsI ds)) ∧ Below w.heap.size w w' := by
  have HD := hide hd
  clear hd
  go_enter Tryd.func61, Tryd.ntmps61
  go_wp2
  go_loopw [4] (fun i wr => ∃ k : Nat, k ≤ 12 ∧ i = .int .i64 k ∧ Blk wr w.heap.size (cellsI ds) 36 ∧ Blk wr (w.heap.size + 1) (cellsI (List.replicate 12 0)) 36 ∧ Blk wr (w.heap.size + 1 + 1) (cellsI (ds.take k ++ List.replicate (12 - k) 0)) 36 ∧ Below w.heap.size w wr) (fun i _ => 12 - (intOf i).toNat)
  case atStart =>
    refine ⟨0, by omega, rfl, ((Blk.new w _ _).alloc _).alloc _, ?_, ?_, (((Below.refl _ _).alloc (Nat.le_refl _) _).alloc (by simp) _).alloc (by simp; omega) _⟩
    · have h := (Blk.new (w.alloc (.cells (cellsI ds) 36)) (cellsI (List.replicate 12 0)) 36).alloc (.cells (cellsI (List.replicate 12 0)) 36)
      rw [World.size_alloc] at h
      exact h
    · have h := Blk.new ((w.alloc (.cells (cellsI ds) 36)).alloc (.cells (cellsI (List.replicate 12 0)) 36)) (cellsI (List.replicate 12 0)) 36
      rw [World.size_alloc, World.size_alloc] at h
      exact h
  case round =>
    obtain ⟨k, hk, rfl, h1, h2, h3, hb⟩ := hrel
    by_cases hlt : k < 12
    · have c1 := h1.cell k
      rw [cellsI_get ds k (by rw [HD.out]; exact hlt)] at c1
      obtain ⟨old, c3⟩ : ∃ u, wr.cell? ⟨w.heap.size + 1 + 1, k, none⟩ = some u := by
        rw [h3.cell k]
        exact ⟨_, Array.getElem?_eq_getElem (by rw [cellsI_size]; have := HD.out; simp; omega)⟩
      have f3 := h3.frozen k
      have HS := hide (set_cells ds k 12 hlt HD.out)
      generalize ds.getD k 0 = z at c1 HS
      have HW := hide (show Blk (wr.setCell ⟨w.heap.size + 1 + 1, k, none⟩ (.int .i64 z)) w.heap.size (cellsI ds) 36 ∧ Blk (wr.setCell ⟨w.heap.size + 1 + 1, k, none⟩ (.int .i64 z)) (w.heap.size + 1) (cellsI (List.replicate 12 0)) 36 ∧ Blk (wr.setCell ⟨w.heap.size + 1 + 1, k, none⟩ (.int .i64 z)) (w.heap.size + 1 + 1) (cellsI (ds.take (k + 1) ++ List.replicate (12 - (k + 1)) 0)) 36 ∧ Below w.heap.size w (wr.setCell ⟨w.heap.size + 1 + 1, k, none⟩ (.int .i64 z)) from by
        refine ⟨h1.other _ _ (by show _ ≠ w.heap.size + 1 + 1; omega), h2.other _ _ (by show _ ≠ w.heap.size + 1 + 1; omega), ?_, hb.setCell (by show _ ≤ w.heap.size + 1 + 1; omega) _⟩
        rw [← HS.out]
        exact h3.set k _)
      clear h1 h2 h3 hb
      go_wp2
      go_roundw
      case rel => exact ⟨k + 1, by omega, by go_num, HW.out.1, HW.out.2.1, HW.out.2.2.1, HW.out.2.2.2⟩
      case measure => simp [intOf]; omega
    · have hk12 : k = 12 := by omega
      subst hk12
      rw [List.take_of_length_le (by rw [HD.out]; omega), Nat.sub_self, List.replicate_zero, List.append_nil] at h3
      have hsz : (cellsI ds).size = 12 := by rw [cellsI_size]; exact HD.out
      have HB := hide (And.intro h2 (And.intro h3 hb))
      have HZ := hide hsz
      clear h1 h2 h3 hb hsz
      go_wp2_with (first | (refine wpList_load_row rfl 36 _ rfl (w.heap.size + 1 + 1) rfl 36 (cellsI ds) (0, 0) _ HB.out.2.1 Tryd.underlying36 rfl (by rw [HZ.out]; exact info12) ?_) | (refine wpList_store_row rfl 36 _ _ rfl (w.heap.size + 1) (cellsI ds) rfl rfl 36 _ HB.out.1 (by rw [HZ.out]; exact info12) (by rw [HZ.out]; rfl) (cellsI_one ds) ?_))
      refine bodyPost_ret (v := .agg (cellsI ds)) ?_ rfl ⟨rfl, ?_⟩
      · exact results_cell_row rfl _ _ (w.heap.size + 1) 36 (cellsI ds) (0, 0) _ rfl (HB.out.1.row _) Tryd.underlying36 rfl (by rw [HZ.out]; exact info12)
      · exact below_setRow HB.out.2.2 (by omega) _
end Go.Proofs.YtmljanlenhjomaaDoor
