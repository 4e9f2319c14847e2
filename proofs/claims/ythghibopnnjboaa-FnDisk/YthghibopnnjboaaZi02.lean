/- The laws' own helpers over []byte: a copy, two held against each other. Structs and arrays of integers: their cells, and a block of the call's own. -/
import Derived.Test.YthghibopnnjboaaRows
import Derived.Test.YthghibopnnjboaaZi01
import Derived.WalkLawsBesides
import Derived.Deep.QuietTactic
import Derived.BigQuiet
import Derived.Deep.MidRow
import Derived.Deep.WholeRow
import Derived.Laws.CopyOwn
import Derived.Laws.ResultCell
namespace Go.Proofs.Ythghibopnnjboaa
open Go.RowKit

theorem infoU8 : (Try.prog.info? 5).map (fun i => (i.zero, i.size, i.bytes)) = some (some (.int .u8 0), 1, 1) := by kernel_rfl

set_option maxHeartbeats 400000 in
theorem toByteS_any (v : Value) (zs : List Int) (w : World) (h : Rd .u8 w v zs) (hn : zs.length ≤ 140737488355328) :
    Calls Try.prog 15 #[v] w fun e w' => ∃ v', e = .returned v' ∧ w'.ownsRow w.heap.size 5 1 v' zs.length (zs.map (Value.int .u8)) ∧ Below w.heap.size w w' := by
  obtain ⟨i0, hi, hz0, hz1, hz2⟩ := info_parts infoU8
  have hm := h.len
  have hnm : zs.length ≤ 9223372036854775807 := by omega
  rcases h.parts with ⟨a, cap, rfl, hlow⟩ | ⟨b, off, cap, rfl, hbw, hcell⟩
  all_goals
    clear h
    go_enter Try.func15, Try.ntmps15
    go_wp2_with (refine wpList_make_full _ rfl (.tmp 6) (.tmp 6) 22 rfl w.heap.size 5 i0 (.int .u8 0) 1 Try.underlying22 hi hz0 hz1 .i64 .i64 zs.length zs.length zs.length rfl rfl rfl rfl (by rw [hz2]; omega) hm (Nat.le_refl _) ?_; intro w1 hown hgrow; rw [made_one _ _ rfl] at hown)
    have hb1 : Below w.heap.size w w1 := (Below.refl _ _).grown hgrow (Nat.le_refl _) (fun k h => by cases h)
    clear hgrow
    go_loopw [4] (fun i wr => ∃ k : Nat, k ≤ zs.length ∧ i = .int .i64 k ∧ wr.ownsRow w.heap.size 5 1 (.slice (some ⟨w.heap.size, 0, none⟩) zs.length zs.length) zs.length ((zs.map (Value.int .u8)).take k ++ List.replicate (zs.length - k) (.int .u8 0)) ∧ Below w.heap.size w wr) (fun i _ => zs.length - (intOf i).toNat)
    case atStart => exact ⟨0, Nat.zero_le _, rfl, by simpa using hown, hb1⟩
    case round =>
      clear hown hb1
      obtain ⟨k, hk, rfl, hown, hb1⟩ := hrel
      by_cases hlt : k < zs.length
      · first
        | omega
        | (have hcx : wr.cell? ⟨b, off + k, none⟩ = some (.int .u8 (zs.getD k 0)) := (hb1.cell (p := ⟨b, off + k, none⟩) hbw).trans (hcell k hlt)
           have hzk : zs[k]? = some (zs.getD k 0) := by simp [List.getD, hlt]
           generalize zs.getD k 0 = z at hcx hzk
           have hst := hown.stored k (.int .u8 z)
           have hfr := hown.frozenAt k
           have hco : wr.cell? ⟨w.heap.size, k, none⟩ = some (.int .u8 0) := by
             rw [hown.cellAt k (by omega), List.getElem?_append_right (by simp; omega), List.getElem?_replicate, if_pos (by simp; omega)]
           have HS : Hid ((wr.setCell ⟨w.heap.size, k, none⟩ (.int .u8 z)).ownsRow w.heap.size 5 1 (.slice (some ⟨w.heap.size, 0, none⟩) zs.length zs.length) zs.length ((zs.map (Value.int .u8)).take (k + 1) ++ List.replicate (zs.length - (k + 1)) (.int .u8 0)) ∧ Below w.heap.size w (wr.setCell ⟨w.heap.size, k, none⟩ (.int .u8 z))) := by
             refine ⟨?_, hb1.setCell (Nat.le_refl _) _⟩
             rw [← set_fill (zs.map (Value.int .u8)) (.int .u8 z) (.int .u8 0) k zs.length hlt (by simp) (by simp [hzk])]
             exact hst.1
           clear hst hown hb1 hzk
           go_wp2
           go_roundw
           case rel => exact ⟨k + 1, by omega, by go_num, HS.out.1, HS.out.2⟩
           case measure => simp [intOf]; omega)
      · go_wp2
        go_ret
        refine ⟨_, rfl, ?_, hb1⟩
        have : k = zs.length := by omega
        subst this
        have e : (zs.map (Value.int .u8)).take zs.length = zs.map (Value.int .u8) := List.take_of_length_le (by simp)
        rw [e] at hown
        simpa using hown

set_option maxHeartbeats 400000 in
theorem eqByteS_any (v1 v2 : Value) (xs ys : List Int) (w : World) (h1 : Rd .u8 w v1 xs) (h2 : Rd .u8 w v2 ys) :
    Calls Try.prog 18 #[v1, v2] w fun e w' => e = .returned (.bool (decide (xs = ys))) ∧ Below w.heap.size w w' := by
  have hm := h1.len
  have hm2 := h2.len
  unfold maxLen at hm hm2
  by_cases hlen : xs.length = ys.length
  · have p1 : At .u8 w v1 xs.length xs := h1.parts
    have p2 : At .u8 w v2 ys.length ys := h2.parts
    rw [← hlen] at p2
    have HL : Hid (xs.length = ys.length) := hlen
    clear hlen h1 h2 hm2
    generalize hn : xs.length = n at *
    have HN : Hid (xs.length = n) := hn
    clear hn
    rcases p1 with ⟨a1, cap1, rfl, hlow⟩ | ⟨b1, off1, cap1, rfl, hbw1, hcell1⟩ <;> rcases p2 with ⟨a2, cap2, rfl, hlow2⟩ | ⟨b2, off2, cap2, rfl, hbw2, hcell2⟩
    all_goals
      go_enter Try.func18, Try.ntmps18
      go_wp2
      go_loopw [5] (fun i wr => ∃ k nq : Nat, k ≤ n ∧ i = .int .i64 k ∧ wr = w.drewN nq ∧ xs.take k = ys.take k) (fun i _ => n - (intOf i).toNat)
      case atStart => exact ⟨0, 0, Nat.zero_le _, rfl, rfl, rfl⟩
      case round =>
        obtain ⟨k, nq, hk, rfl, rfl, ht⟩ := hrel
        have HT : Hid (xs.take k = ys.take k) := ht
        clear ht
        by_cases hlt : k < n
        · first
          | omega
          | (have c1 := hcell1 k hlt
             have c2 := hcell2 k hlt
             have HX : Hid (xs.getD k 0 = ys.getD k 0 → xs.take (k + 1) = ys.take (k + 1)) := fun he => take_eq_step xs ys k (by have := HN.out; omega) (by have := HL.out; omega) HT.out he
             have HY : Hid (xs.getD k 0 ≠ ys.getD k 0 → ¬ xs = ys) := fun he h => he (by rw [h])
             generalize xs.getD k 0 = x at c1 HX HY
             generalize ys.getD k 0 = y at c2 HX HY
             have hlt' : (k : Int) < (n : Int) := by omega
             clear hcell1 hcell2
             by_cases hxy : x = y
             · have hq : (x != y) = false := by simp [hxy]
               have HXY : Hid (x = y) := hxy
               clear hxy
               go_wp2
               go_quiet (fail)
               go_wp2
               go_roundw
               case rel => exact ⟨k + 1, _, by omega, by go_num, rfl, HX.out HXY.out⟩
               case measure => simp [intOf]; omega
             · have hq : (x != y) = true := by simpa using hxy
               have HXY : Hid (x ≠ y) := hxy
               clear hxy
               go_wp2
               go_quiet (fail)
               go_wp2
               go_ret
               exact ⟨ret_bool (by have := HY.out HXY.out; simp [this]), below_drewN (below_drewN (Below.refl _ _) _) _⟩)
        · go_wp2
          go_ret
          have : k = n := by omega
          subst this
          have e1 := HT.out
          rw [List.take_of_length_le (by have := HN.out; omega), List.take_of_length_le (by have := HL.out; omega)] at e1
          exact ⟨ret_bool (by simp [e1]), below_drewN (Below.refl _ _) _⟩
  · obtain ⟨a1, cap1, rfl, _, _⟩ := h1
    obtain ⟨a2, cap2, rfl, _, _⟩ := h2
    have hq : ((xs.length : Int) == (ys.length : Int)) = false := by simp; omega
    have HF : Hid (¬ xs = ys) := fun h => hlen (by rw [h])
    clear hlen
    go_enter Try.func18, Try.ntmps18
    go_wp2
    go_ret
    exact ⟨ret_bool (by simp [HF.out]), Below.refl _ _⟩

theorem eqByteS_same (v1 v2 : Value) (xs : List Int) (w : World) (h1 : Rd .u8 w v1 xs) (h2 : Rd .u8 w v2 xs) :
    Calls Try.prog 18 #[v1, v2] w fun e w' => e = .returned (.bool true) ∧ Below w.heap.size w w' := by
  refine (eqByteS_any v1 v2 xs xs w h1 h2).mono ?_
  rintro e w' ⟨rfl, hb⟩
  exact ⟨by simp, hb⟩
end Go.Proofs.Ythghibopnnjboaa

namespace Go.Proofs.Ythghibopnnjboaa
set_option linter.unusedVariables false
set_option linter.unusedSimpArgs false
open Go.RowKit

/-- Integers as the cells of a struct or an array. -/
def cellsI (ds : List Int) : Array Value := (ds.map (Value.int .i64)).toArray
theorem cellsI_size (ds : List Int) : (cellsI ds).size = ds.length := by simp [cellsI]
theorem cellsI_get (ds : List Int) (k : Nat) (h : k < ds.length) : (cellsI ds)[k]? = some (.int .i64 (ds.getD k 0)) := by simp [cellsI, List.getD, h]
theorem cellsI_one (ds : List Int) : (cellsI ds).all (·.oneCell') = true := by
  rw [Array.all_eq_true_iff_forall_mem]
  intro v hv
  simp [cellsI] at hv
  obtain ⟨z, _, rfl⟩ := hv
  rfl
/-- A block of the call's own, whole. -/
def Blk (w : World) (b : Nat) (C : Array Value) (t : TypeId) : Prop := w.heap[b]? = some (.cells C t (0, 0))
theorem Blk.lt {w : World} {b : Nat} {C : Array Value} {t : TypeId} (h : Blk w b C t) : b < w.heap.size := (Array.getElem?_eq_some_iff.1 h).1
theorem Blk.cell {w : World} {b : Nat} {C : Array Value} {t : TypeId} (h : Blk w b C t) (k : Nat) : w.cell? ⟨b, k, none⟩ = C[k]? := cell_of_row w b k C t (0, 0) h
theorem Blk.frozen {w : World} {b : Nat} {C : Array Value} {t : TypeId} (h : Blk w b C t) (k : Nat) : w.frozen? ⟨b, k, none⟩ = false := frozen_of_row w b k C t h
theorem Blk.below {w w' : World} {b B : Nat} {C : Array Value} {t : TypeId} (h : Blk w b C t) (hb : Below B w w') (hB : b < B) : Blk w' b C t := (hb.block b hB).trans h
theorem Blk.set {w : World} {b : Nat} {C : Array Value} {t : TypeId} (h : Blk w b C t) (k : Nat) (v : Value) : Blk (w.setCell ⟨b, k, none⟩ v) b (C.setIfInBounds k v) t := heap_setCell_same w b k C t v h
theorem Blk.other {w : World} {b : Nat} {C : Array Value} {t : TypeId} (h : Blk w b C t) (a : Addr) (v : Value) (hne : b ≠ a.block) : Blk (w.setCell a v) b C t := (heap_setCell_other w a b v hne).trans h
theorem Blk.alloc {w : World} {b : Nat} {C : Array Value} {t : TypeId} (h : Blk w b C t) (o : Obj) : Blk (w.alloc o) b C t := (Below.heap_alloc w o b h.lt).trans h
theorem Blk.new (w : World) (C : Array Value) (t : TypeId) : Blk (w.alloc (.cells C t)) w.heap.size C t := heap_alloc_new w _
theorem Blk.range {w : World} {b : Nat} {ds : List Int} {t : TypeId} (h : Blk w b (cellsI ds) t) (o n : Nat) (hn : o + n ≤ ds.length) : w.rangeAt b o (((ds.drop o).take n).map (Value.int .i64)) := by
  intro j v hv
  rw [h.cell (o + j)]
  have hj : j < n := by
    rcases Nat.lt_or_ge j n with h1 | h1
    · exact h1
    · rw [List.getElem?_eq_none (by simp; omega)] at hv; cases hv
  simp [cellsI, hj] at hv ⊢
  exact hv

theorem Blk.row {w : World} {b : Nat} {C : Array Value} {t : TypeId} (h : Blk w b C t) (cs : Array Value) : Blk (w.setRow b cs) b cs t := by
  have h' : w.heap[b]? = some (.cells C t (0, 0)) := h
  show (w.setRow b cs).heap[b]? = _
  simp [World.setRow, Array.getElem?_modify, h']
/-- ds laid over xs from place o on. -/
def over (xs : List Int) (o : Nat) (ds : List Int) : List Int := xs.take o ++ ds ++ xs.drop (o + ds.length)
theorem over_len (xs : List Int) (o : Nat) (ds : List Int) (h : o + ds.length ≤ xs.length) : (over xs o ds).length = xs.length := by simp [over]; omega
theorem over_cons (xs : List Int) (o : Nat) (d : Int) (ds : List Int) (h : o + (d :: ds).length ≤ xs.length) : over (xs.set o d) (o + 1) ds = over xs o (d :: ds) := by
  have hl : o < xs.length := by simp at h; omega
  unfold over
  rw [List.take_succ_eq_append_getElem (by simpa using hl), List.take_set_of_le (Nat.le_refl _), List.getElem_set_self, List.drop_set_of_lt (by omega)]
  simp [Nat.add_assoc, Nat.add_comm 1]
theorem cellsI_set (xs : List Int) (o : Nat) (d : Int) : (cellsI xs).setIfInBounds o (.int .i64 d) = cellsI (xs.set o d) := by
  unfold cellsI
  apply Array.ext'
  rw [Array.toList_setIfInBounds]
  show (xs.map (Value.int .i64)).set o (Value.int .i64 d) = _
  rw [← List.map_set]
theorem Blk.cells {b : Nat} {t : TypeId} : ∀ (ds : List Int) {w : World} {xs : List Int} (o : Nat), Blk w b (cellsI xs) t → o + ds.length ≤ xs.length → Blk (w.setCells b o (ds.map (Value.int .i64))) b (cellsI (over xs o ds)) t
  | [], w, xs, o, h, _ => by simpa [over, World.setCells] using h
  | d :: ds, w, xs, o, h, hl => by
    have h1 := h.set o (.int .i64 d)
    rw [cellsI_set] at h1
    have h2 := Blk.cells ds (o + 1) h1 (by simp at hl ⊢; omega)
    rw [over_cons xs o d ds hl] at h2
    exact h2
theorem Blk.cells_other {b b' : Nat} {t : TypeId} {C : Array Value} : ∀ (vs : List Value) {w : World} (o : Nat), Blk w b' C t → b' ≠ b → Blk (w.setCells b o vs) b' C t
  | [], _, _, h, _ => h
  | v :: vs, _, o, h, hne => Blk.cells_other vs (o + 1) (h.other ⟨b, o, none⟩ v hne) hne
theorem below_cells {B b : Nat} {w0 : World} (hB : B ≤ b) : ∀ (vs : List Value) {w : World} (o : Nat), Below B w0 w → Below B w0 (w.setCells b o vs)
  | [], _, _, h => h
  | v :: vs, _, o, h => below_cells hB vs (o + 1) (h.setCell (p := ⟨b, o, none⟩) hB v)
theorem Blk.there {w : World} {b : Nat} {C : Array Value} {t : TypeId} (h : Blk w b C t) (o n : Nat) (hn : o + n ≤ C.size) : w.there b o n := fun j hj =>
  ⟨by rw [h.cell (o + j), Array.getElem?_eq_getElem (by omega)]; rfl, h.frozen _⟩

theorem set_cells (ds : List Int) (k n : Nat) (hk : k < n) (hd : ds.length = n) : (cellsI (ds.take k ++ List.replicate (n - k) 0)).setIfInBounds k (.int .i64 (ds.getD k 0)) = cellsI (ds.take (k + 1) ++ List.replicate (n - (k + 1)) 0) := by
  unfold cellsI
  apply Array.ext'
  rw [Array.toList_setIfInBounds]
  show ((ds.take k ++ List.replicate (n - k) 0).map (Value.int .i64)).set k (Value.int .i64 (ds.getD k 0)) = _
  rw [← List.map_set, set_fill ds (ds.getD k 0) 0 k n hk hd (by simp [List.getD, show k < ds.length by omega])]


theorem results_row_tmp {P : Program} {fn : Func} {p u : Tmp} {ty : TypeId} (h : fn.results = #[.cell p ty, .tmp u]) (tmps : Array Value) (w : World) (g : Nat) (t : TypeId) (cs : Array Value) (fr : Nat × Nat) (d : TypeDesc) (x : Value)
    (hp : tmps.getD p undef = .pointer (some ⟨g, 0, none⟩)) (hx : tmps.getD u undef = x) (hg : w.heap[g]? = some (.cells cs t fr))
    (hu : P.underlying ty = some d) (hd : (match d with | .struct _ | .array _ _ => true | _ => false) = true) (hi : (P.info? ty).map (·.size) = some cs.size) :
    (results fn tmps).run P w = .ok (.tuple #[.agg cs, x]) w := by
  rw [results_cell_tmp h, hp, hx]
  simp [asAddr, run_loadVar_row w g t ty cs fr d hg hu hd hi, Result.andThen]
theorem setRow_block (w : World) (g : Nat) (cs : Array Value) (k : Nat) (h : k ≠ g) : (w.setRow g cs).heap[k]? = w.heap[k]? := by
  simp [World.setRow, Array.getElem?_modify, Ne.symm h]
end Go.Proofs.Ythghibopnnjboaa
