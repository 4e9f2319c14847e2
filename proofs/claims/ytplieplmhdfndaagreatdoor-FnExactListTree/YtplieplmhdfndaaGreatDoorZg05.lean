/- Structs and arrays of integers: their cells, and a block of the call's own. Structs and arrays of integers by value: a copy of twelve, a copy of a root. A copy of a root: toRoot. The model's numbers as bytes: l02Put, l02Get. The model's number of at most eight bytes: l02Get. The laws' own helpers over []int: a copy, two held against each other, marks. DecodeWords, the model's and the program's: both give decW. The program reads a root: readRoot. Inodes by value: twenty-four integers; the comparison with the empty one. The model's look at a root: l02Pointer, l02Pointers, l02Root. The model's look at a root, whole: l02Root; its bytes: l02RootBytes; EncodeRoot. -/
import Derived.Test.YtplieplmhdfndaaGreatDoorZg01
import Derived.Test.YtplieplmhdfndaaGreatDoorRows
import Derived.WalkLawsBesides
import Derived.Deep.MidRow
import Derived.Deep.WholeRow
import Derived.Laws.CopyOwn
import Derived.Laws.ResultCell
import Derived.Test.YtplieplmhdfndaaGreatDoorZg03
import Derived.Test.YtplieplmhdfndaaGreatDoorZg04
import Derived.Test.YtplieplmhdfndaaGreatDoorZg02
import Derived.Deep.QuietTactic
import Derived.BigQuiet
import Derived.Laws.Tables
import Derived.Deep.DeepCutAuto
import Derived.ChangeKeysEq
namespace Go.Proofs.YtplieplmhdfndaaGreatDoor
set_option linter.unusedVariables false
set_option linter.unusedSimpArgs false
open Go.RowKit

/-- Integers as the cells of a struct or an array. -/
def cellsI (ds : List Int) : Array Value := (ds.map (Value.int .i64)).toArray
theorem cellsI_size (ds : List Int) : (cellsI ds).size = ds.length := by simp [cellsI]
theorem cellsI_get (ds : List Int) (k : Nat) (h : k < ds.length) : (cellsI ds)[k]? = some (.int .i64 (ds.getD k 0)) := by simp [cellsI, List.getD, h]
/-- A block of the call's own, whole. -/
def Blk (w : World) (b : Nat) (C : Array Value) (t : TypeId) : Prop := w.heap[b]? = some (.cells C t (0, 0))
theorem Blk.lt {w : World} {b : Nat} {C : Array Value} {t : TypeId} (h : Blk w b C t) : b < w.heap.size := (Array.getElem?_eq_some_iff.1 h).1
theorem Blk.cell {w : World} {b : Nat} {C : Array Value} {t : TypeId} (h : Blk w b C t) (k : Nat) : w.cell? ⟨b, k, none⟩ = C[k]? := cell_of_row w b k C t (0, 0) h
theorem Blk.frozen {w : World} {b : Nat} {C : Array Value} {t : TypeId} (h : Blk w b C t) (k : Nat) : w.frozen? ⟨b, k, none⟩ = false := frozen_of_row w b k C t h
theorem Blk.below {w w' : World} {b B : Nat} {C : Array Value} {t : TypeId} (h : Blk w b C t) (hb : Below B w w') (hB : b < B) : Blk w' b C t := (hb.block b hB).trans h
theorem Blk.set {w : World} {b : Nat} {C : Array Value} {t : TypeId} (h : Blk w b C t) (k : Nat) (v : Value) : Blk (w.setCell ⟨b, k, none⟩ v) b (C.setIfInBounds k v) t := heap_setCell_same w b k C t v h
theorem Blk.other {w : World} {b : Nat} {C : Array Value} {t : TypeId} (h : Blk w b C t) (a : Addr) (v : Value) (hne : b ≠ a.block) : Blk (w.setCell a v) b C t := (heap_setCell_other w a b v hne).trans h
theorem Blk.alloc {w : World} {b : Nat} {C : Array Value} {t : TypeId} (h : Blk w b C t) (o : Obj) : Blk (w.alloc o) b C t := (Below.heap_alloc w o b h.lt).trans h
theorem Blk.new (w : World) (C : Array Value) (t : TypeId) : Blk (w.alloc (.cells C t)) w.heap.size C t := heap_alloc_new w _
theorem Blk.range {w : World} {b : Nat} {ds : List Int} {t : TypeId} (h : Blk w b (cellsI ds) t) (o n : Nat) (hn : o + n ≤ ds.length) : w.rangeAt b o (((ds.drop o).take n).map (Value.int .i64)) := by
  intro j v hv
  rw [h.cell (o + j)]
  have hj : j < n := by
    rcases Nat.lt_or_ge j n with h1 | h1
    · exact h1
    · rw [List.getElem?_eq_none (by simp; omega)] at hv; cases hv
  simp [cellsI, hj] at hv ⊢
  exact hv

theorem Blk.row {w : World} {b : Nat} {C : Array Value} {t : TypeId} (h : Blk w b C t) (cs : Array Value) : Blk (w.setRow b cs) b cs t := by
  have h' : w.heap[b]? = some (.cells C t (0, 0)) := h
  show (w.setRow b cs).heap[b]? = _
  simp [World.setRow, Array.getElem?_modify, h']
/-- ds laid over xs from place o on. -/
def over (xs : List Int) (o : Nat) (ds : List Int) : List Int := xs.take o ++ ds ++ xs.drop (o + ds.length)
theorem over_cons (xs : List Int) (o : Nat) (d : Int) (ds : List Int) (h : o + (d :: ds).length ≤ xs.length) : over (xs.set o d) (o + 1) ds = over xs o (d :: ds) := by
  have hl : o < xs.length := by simp at h; omega
  unfold over
  rw [List.take_succ_eq_append_getElem (by simpa using hl), List.take_set_of_le (Nat.le_refl _), List.getElem_set_self, List.drop_set_of_lt (by omega)]
  simp [Nat.add_assoc, Nat.add_comm 1]
theorem cellsI_set (xs : List Int) (o : Nat) (d : Int) : (cellsI xs).setIfInBounds o (.int .i64 d) = cellsI (xs.set o d) := by
  unfold cellsI
  apply Array.ext'
  rw [Array.toList_setIfInBounds]
  show (xs.map (Value.int .i64)).set o (Value.int .i64 d) = _
  rw [← List.map_set]
theorem Blk.cells {b : Nat} {t : TypeId} : ∀ (ds : List Int) {w : World} {xs : List Int} (o : Nat), Blk w b (cellsI xs) t → o + ds.length ≤ xs.length → Blk (w.setCells b o (ds.map (Value.int .i64))) b (cellsI (over xs o ds)) t
  | [], w, xs, o, h, _ => by simpa [over, World.setCells] using h
  | d :: ds, w, xs, o, h, hl => by
    have h1 := h.set o (.int .i64 d)
    rw [cellsI_set] at h1
    have h2 := Blk.cells ds (o + 1) h1 (by simp at hl ⊢; omega)
    rw [over_cons xs o d ds hl] at h2
    exact h2
theorem below_cells {B b : Nat} {w0 : World} (hB : B ≤ b) : ∀ (vs : List Value) {w : World} (o : Nat), Below B w0 w → Below B w0 (w.setCells b o vs)
  | [], _, _, h => h
  | v :: vs, _, o, h => below_cells hB vs (o + 1) (h.setCell (p := ⟨b, o, none⟩) hB v)
theorem Blk.there {w : World} {b : Nat} {C : Array Value} {t : TypeId} (h : Blk w b C t) (o n : Nat) (hn : o + n ≤ C.size) : w.there b o n := fun j hj =>
  ⟨by rw [h.cell (o + j), Array.getElem?_eq_getElem (by omega)]; rfl, h.frozen _⟩

theorem results_row_tmp {P : Program} {fn : Func} {p u : Tmp} {ty : TypeId} (h : fn.results = #[.cell p ty, .tmp u]) (tmps : Array Value) (w : World) (g : Nat) (t : TypeId) (cs : Array Value) (fr : Nat × Nat) (d : TypeDesc) (x : Value)
    (hp : tmps.getD p undef = .pointer (some ⟨g, 0, none⟩)) (hx : tmps.getD u undef = x) (hg : w.heap[g]? = some (.cells cs t fr))
    (hu : P.underlying ty = some d) (hd : (match d with | .struct _ | .array _ _ => true | _ => false) = true) (hi : (P.info? ty).map (·.size) = some cs.size) :
    (results fn tmps).run P w = .ok (.tuple #[.agg cs, x]) w := by
  rw [results_cell_tmp h, hp, hx]
  simp [asAddr, run_loadVar_row w g t ty cs fr d hg hu hd hi, Result.andThen]
theorem setRow_block (w : World) (g : Nat) (cs : Array Value) (k : Nat) (h : k ≠ g) : (w.setRow g cs).heap[k]? = w.heap[k]? := by
  simp [World.setRow, Array.getElem?_modify, Ne.symm h]
end Go.Proofs.YtplieplmhdfndaaGreatDoor

namespace Go.Proofs.YtplieplmhdfndaaGreatDoor
set_option linter.unusedVariables false
set_option linter.unusedSimpArgs false
open Go.RowKit

theorem info12 : (Tryz.prog.info? 224).map (·.size) = some 12 := by kernel_rfl
theorem info15 : (Tryz.prog.info? 226).map (·.size) = some 15 := by kernel_rfl

end Go.Proofs.YtplieplmhdfndaaGreatDoor

namespace Go.Proofs.YtplieplmhdfndaaGreatDoor
set_option linter.unusedVariables false
set_option linter.unusedSimpArgs false
open Go.RowKit

/-- The fifteen integers of a root. -/
def rootI (s : Int) (ds : List Int) (p q : Int) : List Int := s :: (ds ++ [p, q])
theorem rootI_len (s : Int) (ds : List Int) (p q : Int) (hd : ds.length = 12) : (rootI s ds p q).length = 15 := by simp [rootI, hd]
theorem rootI_get13 (s : Int) (ds : List Int) (p q : Int) (hd : ds.length = 12) : (cellsI (rootI s ds p q))[13]? = some (.int .i64 p) := by
  rw [cellsI_get _ _ (by rw [rootI_len s ds p q hd]; omega)]
  match ds, hd with | [_, _, _, _, _, _, _, _, _, _, _, _], _ => rfl
theorem rootI_get14 (s : Int) (ds : List Int) (p q : Int) (hd : ds.length = 12) : (cellsI (rootI s ds p q))[14]? = some (.int .i64 q) := by
  rw [cellsI_get _ _ (by rw [rootI_len s ds p q hd]; omega)]
  match ds, hd with | [_, _, _, _, _, _, _, _, _, _, _, _], _ => rfl
theorem root_range (s : Int) (ds : List Int) (p q : Int) (hd : ds.length = 12) : ((rootI s ds p q).drop 1).take 12 = ds := by
  match ds, hd with | [_, _, _, _, _, _, _, _, _, _, _, _], _ => rfl

end Go.Proofs.YtplieplmhdfndaaGreatDoor

namespace Go.Proofs.YtplieplmhdfndaaGreatDoor
open Go.RowKit

theorem own_empty (w : World) (e : TypeId) : (w.alloc (.cells #[] e)).ownsRow w.heap.size e 1 (.slice (some ⟨w.heap.size, 0, none⟩) 0 0) 0 [] := by
  have h := World.ownsRow_lit (base := w.heap.size) (e := e) (size := 1) w #[] 0 (Nat.le_refl _) (by simp) rfl
  simpa using h

set_option maxRecDepth 100000 in
set_option maxHeartbeats 400000 in
theorem put_any (v n : Nat) (w : World) (hv : v < 281474976710656) (hn : n ≤ 8) :
    Calls Tryz.prog 190 #[.int .i64 v, .int .i64 n] w fun e w' => ∃ v', e = .returned v' ∧ w'.ownsRow w.heap.size 5 1 v' n ((le n v).map (Value.int .u8)) ∧ Below w.heap.size w w' := by
  obtain ⟨i0, hi, hz0, hz1, hz2⟩ := info_parts infoU8
  have h0 := own_empty w 5
  have hb0 : Below w.heap.size w (w.alloc (.cells #[] 5)) := (Below.refl _ _).alloc (Nat.le_refl _) _
  go_enter Tryz.func190, Tryz.ntmps190
  go_wp2
  go_loopw [0, 5, 6] (fun x o i wr => ∃ (j q : Nat) (ys : List Int), j ≤ n ∧ i = .int .i64 j ∧ x = .int .i64 q ∧ q < 281474976710656 ∧ le n v = ys ++ le (n - j) q ∧ wr.ownsRow w.heap.size 5 1 o j (ys.map (Value.int .u8)) ∧ Below w.heap.size w wr) (fun _ _ i _ => n - (intOf i).toNat)
  case atStart => exact ⟨0, v, [], Nat.zero_le _, rfl, rfl, hv, rfl, by simpa using h0, hb0⟩
  case round =>
    clear h0 hb0
    obtain ⟨j, q, ys, hj, rfl, rfl, hq, hle, hown, hb⟩ := hrel
    have HL : Hid (le n v = ys ++ le (n - j) q) := hle
    clear hle
    have hsz := hb.size
    by_cases hlt : j < n
    · go_wp2_with (at_builtin; refine wpList_append_own _ rfl _ _ 45 rfl w.heap.size 5 i0 (.int .u8 0) 1 1 Tryz.underlying45 hi hz0 hz1 hz2 rfl (by decide) _ _ _ rfl (hown.alloc _) ⟨wr.heap.size, 0, none⟩ 1 1 [.int .u8 ((q : Int) % 256)] rfl rfl (cell_one_new _ _ _) (one_u8 _) (by unfold maxLen; omega) (by omega) (by simp; omega) ?_; intro v1 w1 hown1 hgr1 _)
      have HW : Hid (w1.ownsRow w.heap.size 5 1 v1 (j + 1) ((ys ++ [((q % 256 : Nat) : Int)]).map (Value.int .u8)) ∧ Below w.heap.size w w1) := by
        refine ⟨?_, (hb.alloc hsz _).grown hgr1 (by simp; omega) (fun k h => (hown.lt k h).1)⟩
        have e : (ys ++ [((q % 256 : Nat) : Int)]).map (Value.int .u8) = ys.map (Value.int .u8) ++ [.int .u8 ((q : Int) % 256)] := by simp
        rw [e]
        exact hown1
      clear hown hown1 hgr1 hb
      go_roundw
      case rel => exact ⟨j + 1, q / 256, ys ++ [((q % 256 : Nat) : Int)], by omega, by go_num, by go_num, by omega, by rw [HL.out]; exact le_step ys n j q hlt, HW.out.1, HW.out.2⟩
      case measure => simp [intOf]; omega
    · go_wp2
      go_ret
      have e : j = n := by omega
      subst e
      have h := HL.out
      rw [Nat.sub_self, le, List.append_nil] at h
      rw [h]
      exact ⟨_, rfl, hown, hb⟩

theorem put_pos (v n : Nat) (w : World) (hv : v < 281474976710656) (hn : n ≤ 8) (h0 : 0 < n) :
    Calls Tryz.prog 190 #[.int .i64 v, .int .i64 n] w fun e w' => ∃ g cp, e = .returned (.slice (some ⟨g, 0, none⟩) n cp) ∧ w'.ownsRow w.heap.size 5 1 (.slice (some ⟨g, 0, none⟩) n cp) n ((le n v).map (Value.int .u8)) ∧ Below w.heap.size w w' := by
  refine (put_any v n w hv hn).mono ?_
  rintro e w' ⟨v', rfl, ho, hb⟩
  rcases ho.2 with ⟨rfl, hn0⟩ | ⟨g, cap, cur, rfl, _⟩
  · omega
  · exact ⟨g, cap, rfl, ho, hb⟩
end Go.Proofs.YtplieplmhdfndaaGreatDoor

namespace Go.Proofs.YtplieplmhdfndaaGreatDoor
open Go.RowKit

def gval (ts : List Int) : Nat := if 70368744177664 ≤ unle ts / 256 then 4611686018427387904 else unle ts
theorem unle_drop (ts : List Int) (j : Nat) (h : j < ts.length) : unle (ts.drop j) = (ts.getD j 0).toNat + 256 * unle (ts.drop (j + 1)) := by
  rw [List.drop_eq_getElem_cons h, unle]
  simp [List.getD, h]
theorem unle_ge (ts : List Int) : ∀ j, 1 ≤ j → j ≤ ts.length → 256 * unle (ts.drop j) ≤ unle ts
  | 0, h, _ => by omega
  | 1, _, h2 => by
    have h := unle_drop ts 0 (by omega)
    rw [List.drop_zero, Nat.zero_add] at h
    rw [h]; omega
  | j + 2, _, h2 => by
    have h := unle_drop ts (j + 1) (by omega)
    have ih := unle_ge ts (j + 1) (by omega) (by omega)
    have e : j + 1 + 1 = j + 2 := rfl
    rw [e] at h
    omega
theorem gval_big (ts : List Int) (j : Nat) (h1 : 1 ≤ j) (h2 : j ≤ ts.length) (h : 70368744177664 ≤ unle (ts.drop j)) : gval ts = 4611686018427387904 := by
  have := unle_ge ts j h1 h2
  unfold gval
  rw [if_pos (by omega)]
theorem gval_small (ts : List Int) (h : unle ts < 18014398509481984) : gval ts = unle ts := by
  unfold gval
  rw [if_neg (by omega)]

set_option maxRecDepth 100000 in
set_option maxHeartbeats 400000 in
theorem get_any (v : Value) (ts : List Int) (w : World) (h : Rd .u8 w v ts) (hl : ts.length ≤ 8) (hbd : ∀ z ∈ ts, 0 ≤ z ∧ z < 256) :
    Calls Tryz.prog 153 #[v] w fun e w' => e = .returned (.int .i64 (gval ts)) ∧ w = w' := by
  have HB := hide hbd
  clear hbd
  rcases h.parts with ⟨a, cap, rfl, hlow⟩ | ⟨b, off, cap, rfl, hbw, hcell⟩
  all_goals
    clear h
    go_enter Tryz.func153, Tryz.ntmps153
    go_wp2
    go_loop [3, 4] (fun x i => ∃ j q : Nat, j ≤ ts.length ∧ i = .int .i64 ((j : Int) - 1) ∧ x = .int .i64 q ∧ q = unle (ts.drop j) ∧ q < 18014398509481984) (fun _ i => (intOf i + 1).toNat)
    case atStart => exact ⟨ts.length, 0, by omega, rfl, rfl, by simp [unle], by omega⟩
    case round =>
      obtain ⟨j, q, hj, rfl, rfl, hq, hql⟩ := hrel
      have HQ := hide hq
      have HQL := hide hql
      clear hq hql
      by_cases hlt : 1 ≤ j
      · obtain ⟨i, rfl⟩ : ∃ i, j = i + 1 := ⟨j - 1, by omega⟩
        by_cases hbig : (70368744177664 : Int) ≤ (q : Int)
        · first
          | (exfalso; omega)
          | (have HG := hide (gval_big ts (i + 1) hlt hj (by rw [← HQ.out]; omega))
             clear hcell
             have e1 : (((i + 1 : Nat) : Int) - 1) = (i : Int) := by omega
             rw [e1]
             clear e1
             go_wp2
             go_ret
             exact ⟨ret_int (by rw [HG.out]; rfl), rfl⟩)
        · first
          | (exfalso; omega)
          | (have e1 : (((i + 1 : Nat) : Int) - 1) = (i : Int) := by omega
             rw [e1]
             have c1 := hcell i (by omega)
             have hz1 := HB.out (ts.getD i 0) (by simp [List.getD, show i < ts.length by omega])
             have HT := hide (unle_drop ts i (by omega))
             clear hcell e1
             generalize ts.getD i 0 = z at c1 HT hz1
             obtain ⟨c, rfl⟩ := Int.eq_ofNat_of_zero_le hz1.1
             obtain ⟨_, hc2⟩ := hz1
             have hc : c < 256 := by omega
             clear hc2
             rw [Int.toNat_natCast] at HT
             go_wp2
             go_round
             case rel => exact ⟨i, c + 256 * q, by omega, by go_num, by go_num, by rw [HT.out, HQ.out], by omega⟩
             case measure => first | (simp [intOf]; done) | (simp [intOf]; omega))
      · have hj0 : j = 0 := by omega
        subst hj0
        have HG := hide (show gval ts = q from by
          have h1 := HQ.out
          rw [List.drop_zero] at h1
          have h2 := HQL.out
          rw [gval_small ts (by omega), ← h1])
        go_wp2
        go_ret
        exact ⟨ret_int (by rw [HG.out]), rfl⟩
end Go.Proofs.YtplieplmhdfndaaGreatDoor

namespace Go.Proofs.YtplieplmhdfndaaGreatDoor
open Go.RowKit

end Go.Proofs.YtplieplmhdfndaaGreatDoor

namespace Go.Proofs.YtplieplmhdfndaaGreatDoor
open Go.RowKit

theorem newReader_any (v : Value) (zs : List Int) (w : World) (h : Rd .u8 w v zs) :
    Calls Tryz.prog 133 #[v] w fun e w' => e = .returned (.pointer (some ⟨w.heap.size, 0, none⟩)) ∧ Rdr w w' w.heap.size (w.heap.size + 1) true v zs 0 ∧ Below w.heap.size w w' := by
  have H := hide h
  obtain ⟨a, cap, rfl, _⟩ := h
  have HR := hide (show Rdr w (w.alloc (.cells #[.int .i64 21, .nilIface, .slice a zs.length cap, .int .i64 0] 216)) w.heap.size (w.heap.size + 1) true (.slice a zs.length cap) zs 0 ∧ Below w.heap.size w (w.alloc (.cells #[.int .i64 21, .nilIface, .slice a zs.length cap, .int .i64 0] 216)) from by
    have hb : Below w.heap.size w (w.alloc (.cells #[.int .i64 21, .nilIface, .slice a zs.length cap, .int .i64 0] 216)) := (Below.refl _ _).alloc (Nat.le_refl _) _
    exact ⟨⟨⟨by simp, by simp, .nilIface, by simp, .inl ⟨rfl, rfl⟩⟩, by simp, by simp, by simp, hb, rfl, H.out, by omega, by omega, by simp⟩, hb⟩)
  go_enter Tryz.func133, Tryz.ntmps133
  go_wp2
  go_ret
  exact ⟨rfl, HR.out⟩

end Go.Proofs.YtplieplmhdfndaaGreatDoor

namespace Go.Proofs.YtplieplmhdfndaaGreatDoor
set_option linter.unusedVariables false
set_option linter.unusedSimpArgs false
open Go.RowKit

theorem Flt.store {w : World} {lo g o : Nat} {y : Int} {x : Value} (ho : o ≠ 0) (hy : w.cell? ⟨g, o, none⟩ = some (.int .i64 y)) : ∀ {n : Nat} {v : Value} {c : Int}, Flt w lo n v c → Flt (w.setCell ⟨g, o, none⟩ x) lo n v c
  | 0, _, _, ⟨b, h, hl, hc⟩ => ⟨b, h, hl, (World.cell?_setCell_other _ _ _ _ (by intro e; injection e with e1 e2; exact ho e2)).trans hc⟩
  | _ + 1, _, _, ⟨b, v', h, hl, hc, hr⟩ => by
    refine ⟨b, v', h, hl, (World.cell?_setCell_other _ _ _ _ ?_).trans hc, Flt.store ho hy hr⟩
    intro e
    rw [e, hc] at hy
    obtain ⟨t, z, rfl⟩ := hr.iface
    cases hy
theorem Rdr.store {w0 w : World} {b lo : Nat} {ok : Bool} {dv : Value} {zs : List Int} {pos g o : Nat} {y : Int} (x : Value) (h : Rdr w0 w b lo ok dv zs pos) (hg : b < g) (ho : o ≠ 0) (hy : w.cell? ⟨g, o, none⟩ = some (.int .i64 y)) : Rdr w0 (w.setCell ⟨g, o, none⟩ x) b lo ok dv zs pos := by
  have hne : ∀ o', (⟨g, o, none⟩ : Addr) ≠ ⟨b, o', none⟩ := fun o' e => by injection e with e1 e2; omega
  have hc : ∀ o', (w.setCell ⟨g, o, none⟩ x).cell? ⟨b, o', none⟩ = w.cell? ⟨b, o', none⟩ := fun o' => World.cell?_setCell_other _ _ _ _ (hne o')
  obtain ⟨c1, c2, ev, c3, c4⟩ := h.ck
  refine ⟨⟨(hc 0).trans c1, by simpa using c2, ev, (hc 1).trans c3, ?_⟩, (hc 2).trans h.data, (hc 3).trans h.at_, by simpa using h.fr, h.old.setCell (p := ⟨g, o, none⟩) (Nat.le_of_lt hg) _, h.size, h.rd, h.le, h.lo1, by simpa using h.lo2⟩
  rcases c4 with c4 | ⟨c4, n, c5⟩
  · exact .inl c4
  · exact .inr ⟨c4, n, c5.store ho hy⟩
theorem Rdr.below {w0 w w' : World} {b lo : Nat} {ok : Bool} {dv : Value} {zs : List Int} {pos : Nat} (h : Rdr w0 w b lo ok dv zs pos) (hb : Below w.heap.size w w') : Rdr w0 w' b lo ok dv zs pos :=
  ⟨h.ck.below hb, (hb.cell (p := ⟨b, 2, none⟩) h.ck.lt).trans h.data, (hb.cell (p := ⟨b, 3, none⟩) h.ck.lt).trans h.at_, (hb.frozen (p := ⟨b, 3, none⟩) h.ck.lt).trans h.fr, h.old.trans (hb.mono (Nat.le_of_lt h.ck.lt)), h.size, h.rd, h.le, h.lo1, Nat.le_trans h.lo2 hb.size⟩
theorem Rdr.alloc {w0 w : World} {b lo : Nat} {ok : Bool} {dv : Value} {zs : List Int} {pos : Nat} (h : Rdr w0 w b lo ok dv zs pos) (o : Obj) : Rdr w0 (w.alloc o) b lo ok dv zs pos := h.below ((Below.refl _ _).alloc (Nat.le_refl _) _)
theorem grow_set {w w1 : World} {r : Option Nat} (h : w.grownBy w1 r) (g o : Nat) (v : Value) (hg : w.heap.size ≤ g) : w.grownBy (w1.setCell ⟨g, o, none⟩ v) r :=
  ⟨h.os, h.tape, h.output, by simpa using h.size, fun k hk hne => (Below.heap_setCell w1 ⟨g, o, none⟩ _ k (by show k ≠ g; omega)).trans (h.block k hk hne)⟩
theorem cellsI_int {xs : List Int} {k : Nat} {v : Value} (h : (cellsI xs)[k]? = some v) : ∃ z, xs[k]? = some z ∧ v = .int .i64 z := by
  have h' : (xs.map (Value.int .i64))[k]? = some v := by simpa [cellsI] using h
  rw [List.getElem?_map] at h'
  cases e : xs[k]? with
  | none => rw [e] at h'; cases h'
  | some z => rw [e] at h'; exact ⟨z, rfl, by simpa using h'.symm⟩
theorem Flt.row {w : World} {lo g : Nat} {xs : List Int} {t : TypeId} {cs : Array Value} {c : Int} (hB : Blk w g (cellsI xs) t) (hx : xs[0]? ≠ some c) : ∀ {n : Nat} {v : Value}, Flt w lo n v c → Flt (w.setRow g cs) lo n v c
  | 0, _, ⟨b, h, hl, hc⟩ => by
    refine ⟨b, h, hl, (World.cell?_of_block (a := ⟨b, 0, none⟩) (setRow_block w g cs b ?_)).trans hc⟩
    rintro rfl
    rw [hB.cell 0] at hc
    obtain ⟨z, h1, h2⟩ := cellsI_int hc
    injection h2 with _ h3
    rw [h3] at hx
    exact hx h1
  | _ + 1, _, ⟨b, v', h, hl, hc, hr⟩ => by
    refine ⟨b, v', h, hl, (World.cell?_of_block (a := ⟨b, 1, none⟩) (setRow_block w g cs b ?_)).trans hc, Flt.row hB hx hr⟩
    rintro rfl
    rw [hB.cell 1] at hc
    obtain ⟨z, _, rfl⟩ := cellsI_int hc
    obtain ⟨_, _, h3⟩ := hr.iface
    cases h3
theorem Rdr.row {w0 w : World} {b lo : Nat} {ok : Bool} {dv : Value} {zs : List Int} {pos g : Nat} {xs : List Int} {t : TypeId} (cs : Array Value) (h : Rdr w0 w b lo ok dv zs pos) (hg : b < g) (hB : Blk w g (cellsI xs) t) (hx : xs[0]? ≠ some 21) : Rdr w0 (w.setRow g cs) b lo ok dv zs pos := by
  have hb : (w.setRow g cs).heap[b]? = w.heap[b]? := setRow_block w g cs b (by omega)
  have hc : ∀ o', (w.setRow g cs).cell? ⟨b, o', none⟩ = w.cell? ⟨b, o', none⟩ := fun o' => World.cell?_of_block (a := ⟨b, o', none⟩) hb
  have hf : ∀ o', (w.setRow g cs).frozen? ⟨b, o', none⟩ = w.frozen? ⟨b, o', none⟩ := fun o' => World.frozen?_of_block (a := ⟨b, o', none⟩) hb
  obtain ⟨c1, c2, ev, c3, c4⟩ := h.ck
  refine ⟨⟨(hc 0).trans c1, (hf 1).trans c2, ev, (hc 1).trans c3, ?_⟩, (hc 2).trans h.data, (hc 3).trans h.at_, (hf 3).trans h.fr, below_setRow h.old (Nat.le_of_lt hg) _, h.size, h.rd, h.le, h.lo1, by simpa [World.setRow] using h.lo2⟩
  rcases c4 with c4 | ⟨c4, n, c5⟩
  · exact .inl c4
  · exact .inr ⟨c4, n, c5.row hB hx⟩

/-- How far a reader came that was ok at pos and had m bytes to read. -/
def Adv (ok : Bool) (zs : List Int) (pos m : Nat) (okr : Bool) (pr : Nat) : Prop :=
  (okr = true ∧ ok = true ∧ pos + m ≤ zs.length ∧ pr = pos + m) ∨ (okr = false ∧ ¬ (ok = true ∧ pos + m ≤ zs.length) ∧ pr ≤ pos + m)
theorem Adv.start (ok : Bool) (zs : List Int) (pos : Nat) (h : pos ≤ zs.length) : Adv ok zs pos 0 ok pos := by
  cases ok with
  | true => exact .inl ⟨rfl, rfl, h, rfl⟩
  | false => exact .inr ⟨rfl, (fun h => absurd h.1 (by decide)), by omega⟩
theorem Adv.step {ok okr : Bool} {zs : List Int} {pos m pr : Nat} {w0 w w' : World} {b lo : Nat} {dv : Value} {m' x : Nat} (h : Adv ok zs pos m okr pr) (hn : Numd w0 w w' b lo okr dv zs pr m' x) :
    ∃ ok2 p2, Rdr w0 w' b lo ok2 dv zs p2 ∧ Adv ok zs pos (m + m') ok2 p2 ∧ (ok2 = true → okr = true ∧ x = unle ((zs.drop (pos + m)).take m')) ∧ w.grownBy w' (some b) := by
  obtain ⟨hg, hn⟩ := hn
  rcases hn with ⟨ho, hle, hx, hr⟩ | ⟨hno, hx, hr⟩
  · rcases h with ⟨_, h2, h3, h4⟩ | ⟨h1, _, _⟩
    · subst h4
      exact ⟨true, _, hr, .inl ⟨rfl, h2, by omega, by omega⟩, fun _ => ⟨ho, hx⟩, hg⟩
    · rw [h1] at ho; cases ho
  · refine ⟨false, _, hr, .inr ⟨rfl, fun hh => ?_, ?_⟩, (fun h => absurd h (by decide)), hg⟩
    · rcases h with ⟨h1, h2, h3, h4⟩ | ⟨h1, h2, _⟩
      · exact hno ⟨h1, by omega⟩
      · exact h2 ⟨hh.1, by omega⟩
    · rcases h with ⟨h1, h2, h3, h4⟩ | ⟨h1, h2, h3⟩ <;> omega

end Go.Proofs.YtplieplmhdfndaaGreatDoor

namespace Go.Proofs.YtplieplmhdfndaaGreatDoor
set_option linter.unusedVariables false
set_option linter.unusedSimpArgs false
open Go.RowKit

section
variable {P : Program}
theorem part_one (w : World) {e : TypeId} {k : IntKind} (he : P.underlying e = some (.int k)) {xs : Array Value} {off : Nat} {v : Value} (hx : xs[off]? = some v) : (part e xs off).run P w = .ok v w := by
  simp [part, isAgg, run_underlying he, hx]
theorem part_many (w : World) {t : TypeId} {d : TypeDesc} {i : TypeInfo} (hu : P.underlying t = some d) (hd : (match d with | .struct _ | .array _ _ => true | _ => false) = true) (hi : P.info? t = some i) (xs : Array Value) (off : Nat) :
    (part t xs off).run P w = .ok (.agg (xs.extract off (off + P.cellsOf t))) w := by
  cases d <;> simp at hd <;> simp [part, isAgg, run_underlying hu, run_sizeOf w hi]
theorem eqFields_cons (w : World) {d : Nat} {xs ys : Array Value} {f : Field} {fs : List Field} {a b : Value} {r r' : Bool} (hn : f.name ≠ "_") (h1 : (part f.type xs f.offset).run P w = .ok a w) (h2 : (part f.type ys f.offset).run P w = .ok b w)
    (h3 : (Op.equalIn d f.type a b).run P w = .ok r w) (h4 : (Op.eqFields d xs ys fs).run P w = .ok r' w) : (Op.eqFields d xs ys (f :: fs)).run P w = .ok (r && r') w := by
  simp only [Op.eqFields, hn, ne_eq, not_false_eq_true, if_true, Sem.run_bind, h1, h2, h3, Result.andThen_ok]
  cases r
  · simp
  · simpa using h4
theorem eqItems_cons (w : World) {d : Nat} {e : TypeId} {c : Nat} {xs ys : Array Value} {i : Nat} {is : List Nat} {a b : Value} {r r' : Bool} (h1 : (part e xs (i * c)).run P w = .ok a w) (h2 : (part e ys (i * c)).run P w = .ok b w)
    (h3 : (Op.equalIn d e a b).run P w = .ok r w) (h4 : (Op.eqItems d e c xs ys is).run P w = .ok r' w) : (Op.eqItems d e c xs ys (i :: is)).run P w = .ok (r && r') w := by
  simp only [Op.eqItems, Sem.run_bind, h1, h2, h3, Result.andThen_ok]
  cases r
  · simp
  · simpa using h4
/-- Two rows of integers, item by item. -/
theorem eqItems_ints (w : World) (d : Nat) {e : TypeId} (he : P.underlying e = some (.int .i64)) (xs ys : List Int) : ∀ (is : List Nat), (∀ i ∈ is, i < xs.length ∧ i < ys.length) →
    (Op.eqItems (d + 1) e 1 (cellsI xs) (cellsI ys) is).run P w = .ok (is.all fun i => xs.getD i 0 == ys.getD i 0) w
  | [], _ => by simp [Op.eqItems]
  | i :: is, h => by
    have hi := h i (by simp)
    exact eqItems_cons w (part_one w he (by rw [Nat.mul_one]; exact cellsI_get xs i hi.1)) (part_one w he (by rw [Nat.mul_one]; exact cellsI_get ys i hi.2)) (run_equalIn_int w d e .i64 .i64 _ _ he) (eqItems_ints w d he xs ys is (fun j hj => h j (by simp [hj])))

theorem wpList_eql {ops : Array Oper} {rest : List Oper} {o : Oper} {a : Act} {w : World} {Q : Exit → Act → World → Prop} (hgd : o.guard = none) (t u : TypeId) (x y : Operand) (ho : o.op = .binOp .eql t x y u)
    (cs ds : Array Value) (hx : a.eval x = .agg cs) (hy : a.eval y = .agg ds) (hm : P.eqGuardType P.depth t = false) (b : Bool) (hE : (Op.equalIn 10000 t (.agg cs) (.agg ds)).run P w = .ok b w)
    (h : wpList P ops Q rest (a.put o.dst (.bool b)) w) : wpList P ops Q (o :: rest) a w := by
  refine wpList_plain hgd fun K hK => ?_
  have hrun : (execOp a.eval o).run P w = .ok (.value (.bool b)) w := by
    simp [execOp, ho, hx, hy, run_eqGuard_agg w _ _ _ _ _ _ hm, run_eql_struct, hE, Result.andThen]
  unfold Oper.wp
  rw [hrun, Oper.upon_value]
  exact hK _ _ h
end

/-- The integers of an inode: the nine of its own, then its root's. -/
def inoI (ks : List Int) (s : Int) (ds : List Int) (p q : Int) : List Int := ks ++ rootI s ds p q
theorem inoI_len (ks : List Int) (s : Int) (ds : List Int) (p q : Int) (hk : ks.length = 9) (hd : ds.length = 12) : (inoI ks s ds p q).length = 24 := by
  unfold inoI
  rw [List.length_append, rootI_len s ds p q hd, hk]
theorem info24 : (Tryz.prog.info? 228).map (·.size) = some 24 := by kernel_rfl
theorem cellsT_int : Tryz.prog.cellsOf 3 = 1 := by kernel_rfl
theorem cellsT_12 : Tryz.prog.cellsOf 224 = 12 := by kernel_rfl
theorem cellsT_15 : Tryz.prog.cellsOf 226 = 15 := by kernel_rfl

def zeroB (l : List Int) : Bool := l.all fun x => x == 0
theorem zeroB_iff (l : List Int) : zeroB l = true ↔ ∀ x ∈ l, x = 0 := by simp [zeroB]

theorem structRoot : Tryz.prog.underlying 226 = some (.struct (Tryz.prog.fieldsOf 226)) := by unfold Program.fieldsOf; rw [Tryz.underlying226]
theorem structIno : Tryz.prog.underlying 228 = some (.struct (Tryz.prog.fieldsOf 228)) := by unfold Program.fieldsOf; rw [Tryz.underlying228]
theorem heldRoot : Tryz.prog.stoodInHeld 226 = false := by kernel_rfl
theorem heldIno : Tryz.prog.stoodInHeld 228 = false := by kernel_rfl
theorem guardIno : Tryz.prog.eqGuardType Tryz.prog.depth 228 = false := by kernel_rfl

theorem eqArr_zero (w : World) (d : Nat) (ds : List Int) (hd : ds.length = 12) : (Op.equalIn (d + 2) 224 (.agg (cellsI ds)) (.agg (cellsI (List.replicate 12 0)))).run Tryz.prog w = .ok (zeroB ds) w := by
  obtain ⟨i, hi⟩ : ∃ i, Tryz.prog.info? 3 = some i := info_of_underlying Tryz.underlying3
  rw [run_equalIn_array w (d + 1) _ _ Tryz.underlying224 hi, cellsT_int, eqItems_ints w d Tryz.underlying3 ds (List.replicate 12 0) (List.range 12) (by intro j hj; simp at hj ⊢; omega)]
  match ds, hd with
  | [d0, d1, d2, d3, d4, d5, d6, d7, d8, d9, d10, d11], _ => rfl

theorem ino_range (k0 k1 k2 k3 k4 k5 k6 k7 k8 s : Int) (ds : List Int) (p q : Int) (hd : ds.length = 12) {w : World} {b : Nat} {t : TypeId} (h : Blk w b (cellsI (inoI [k0, k1, k2, k3, k4, k5, k6, k7, k8] s ds p q)) t) : w.rangeAt b 9 ((rootI s ds p q).map (Value.int .i64)) := by
  have hr := h.range 9 15 (by rw [inoI_len _ _ _ _ _ rfl hd]; omega)
  have e : ((inoI [k0, k1, k2, k3, k4, k5, k6, k7, k8] s ds p q).drop 9).take 15 = rootI s ds p q := by
    have hl := rootI_len s ds p q hd
    simp only [inoI, List.drop_append, List.length_cons, List.length_nil, List.drop_succ_cons, List.drop_nil, List.nil_append, Nat.sub_self, List.drop_zero]
    exact List.take_of_length_le (by omega)
  rw [e] at hr
  exact hr

end Go.Proofs.YtplieplmhdfndaaGreatDoor

namespace Go.Proofs.YtplieplmhdfndaaGreatDoor
set_option linter.unusedVariables false
set_option linter.unusedSimpArgs false
open Go.RowKit

def ptrB (x n : Int) : Bool := decide (x = 0) || (decide (2 ≤ x) && decide (x < n))
end Go.Proofs.YtplieplmhdfndaaGreatDoor

namespace Go.Proofs.YtplieplmhdfndaaGreatDoor
set_option linter.unusedVariables false
set_option linter.unusedSimpArgs false
open Go.RowKit

def lst (i : Nat) : Int := if i = 13 then 140 else i
def okAt (B : Int) (i : Nat) (x : Int) : Bool := ptrB x 2048 && (decide (x = 0) || decide (lst i < B))
def allR (s : Int) (pts : List Int) (n : Nat) : Bool := (List.range n).all fun i => okAt ((s + 511) / 512) i (pts.getD i 0)
def rightR (s : Int) (ds : List Int) (p q : Int) : Bool := (decide (0 ≤ s) && decide (s ≤ 262144)) && allR s (ds ++ [p, q]) 14
end Go.Proofs.YtplieplmhdfndaaGreatDoor
