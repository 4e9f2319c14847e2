/- The program's first fault that sticks: need, within, inside, at a check that lies at the head of block b. Structs and arrays of integers: their cells, and a block of the call's own. A right map, as the model and the program look at it: L04Right, mapFault. -/
import Derived.Test.YtlimollpocagiaaGreatDoorZr02
import Derived.Test.YtlimollpocagiaaGreatDoorZr01
import Derived.Test.YtlimollpocagiaaGreatDoorRows
import Derived.WalkLawsBesides
import Derived.Deep.MidRow
import Derived.Deep.WholeRow
import Derived.Laws.CopyOwn
import Derived.Laws.ResultCell
namespace Go.Proofs.YtlimollpocagiaaGreatDoor
open Go.RowKit

/-- A check at the head of block b: its code, and no fault yet (ok), or a chain of faults with that code, from block lo on. -/
def Ck (w : World) (b lo : Nat) (code : Int) (ok : Bool) : Prop :=
  w.cell? ⟨b, 0, none⟩ = some (.int .i64 code) ∧ w.frozen? ⟨b, 1, none⟩ = false ∧ ∃ ev, w.cell? ⟨b, 1, none⟩ = some ev ∧ ((ok = true ∧ ev = .nilIface) ∨ (ok = false ∧ ∃ n, Flt w lo n ev code))
/-- Of what was there only the second cell of block b may have turned. -/
def Tch (b : Nat) (w w' : World) : Prop :=
  w.grownBy w' (some b) ∧ (∀ o, o ≠ 1 → w'.cell? ⟨b, o, none⟩ = w.cell? ⟨b, o, none⟩) ∧ ∀ o, w'.frozen? ⟨b, o, none⟩ = w.frozen? ⟨b, o, none⟩
theorem Tch.refl (b : Nat) (w : World) : Tch b w w := ⟨World.grownBy.refl _ _, fun _ _ => rfl, fun _ => rfl⟩
theorem Tch.trans {b : Nat} {w w1 w2 : World} (h1 : Tch b w w1) (h2 : Tch b w1 w2) : Tch b w w2 :=
  ⟨grownBy_trans h1.1 h2.1, fun o ho => (h2.2.1 o ho).trans (h1.2.1 o ho), fun o => (h2.2.2 o).trans (h1.2.2 o)⟩
theorem Tch.of_below {b : Nat} {w w' : World} (hlt : b < w.heap.size) (h : Below w.heap.size w w') : Tch b w w' :=
  ⟨⟨h.os, h.tape, h.output, h.size, fun k hk _ => h.block k hk⟩, fun o _ => h.cell (p := ⟨b, o, none⟩) hlt, fun o => h.frozen (p := ⟨b, o, none⟩) hlt⟩
theorem Tch.under {b B : Nat} {w0 w w' : World} (h : Tch b w w') (h0 : Below B w0 w) (hB : B ≤ b) (hs : B ≤ w.heap.size) : Below B w0 w' :=
  h0.grown h.1 hs (fun k e => by cases e; exact hB)
theorem Ck.lt {w : World} {b lo : Nat} {code : Int} {ok : Bool} (h : Ck w b lo code ok) : b < w.heap.size := cell_lt h.1
theorem Ck.below {w w' : World} {b lo : Nat} {code : Int} {ok : Bool} (h : Ck w b lo code ok) (hb : Below w.heap.size w w') : Ck w' b lo code ok := by
  obtain ⟨h1, h2, ev, h3, h4⟩ := h
  have hlt : b < w.heap.size := cell_lt h1
  refine ⟨(hb.cell (p := ⟨b, 0, none⟩) hlt).trans h1, (hb.frozen (p := ⟨b, 1, none⟩) hlt).trans h2, ev, (hb.cell (p := ⟨b, 1, none⟩) hlt).trans h3, ?_⟩
  rcases h4 with h4 | ⟨h4, n, h5⟩
  · exact .inl h4
  · exact .inr ⟨h4, n, h5.below hb⟩
/-- Kept behind what turns neither the check's block nor one from lo on. -/
theorem Ck.keep {w w' : World} {b lo : Nat} {code : Int} {ok : Bool} (h : Ck w b lo code ok) (hb : w'.heap[b]? = w.heap[b]?) (hk : ∀ k, k < w.heap.size → lo ≤ k → w'.heap[k]? = w.heap[k]?) : Ck w' b lo code ok := by
  obtain ⟨h1, h2, ev, h3, h4⟩ := h
  refine ⟨(World.cell?_of_block (a := ⟨b, 0, none⟩) hb).trans h1, (World.frozen?_of_block (a := ⟨b, 1, none⟩) hb).trans h2, ev, (World.cell?_of_block (a := ⟨b, 1, none⟩) hb).trans h3, ?_⟩
  rcases h4 with h4 | ⟨h4, n, h5⟩
  · exact .inl h4
  · exact .inr ⟨h4, n, h5.keep fun k o v hl hc => (World.cell?_of_block (a := ⟨k, o, none⟩) (hk k (cell_lt hc) hl)).trans hc⟩
/-- Kept behind writes to one row that is neither the check's nor one from lo on. -/
theorem Ck.grown {w w' : World} {b lo g : Nat} {code : Int} {ok : Bool} (h : Ck w b lo code ok) (hg : w.grownBy w' (some g)) (hne : b ≠ g) (hl : g < lo) : Ck w' b lo code ok :=
  h.keep (hg.block b h.lt (by simp; omega)) (fun k hk hlo => hg.block k hk (by simp; omega))
theorem Ck.relo {w : World} {b lo lo' : Nat} {code : Int} (h : Ck w b lo code true) : Ck w b lo' code true := by
  obtain ⟨h1, h2, ev, h3, h4⟩ := h
  rcases h4 with h4 | ⟨h4, _⟩
  · exact ⟨h1, h2, ev, h3, .inl h4⟩
  · cases h4
theorem Ck.fresh (w : World) (code : Int) (t : TypeId) : Ck (w.alloc (.cells #[.int .i64 code, .nilIface] t)) w.heap.size (w.heap.size + 1) code true :=
  ⟨by simp, by simp, .nilIface, by simp, .inl ⟨rfl, rfl⟩⟩

theorem inside_nil (b lo : Nat) (place : ByteArray) (code : Int) (ok : Bool) (w : World) (h : Ck w b lo code ok) :
    Calls Tryz.prog 56 #[.pointer (some ⟨b, 0, none⟩), .string place, .nilIface] w fun e w' => e = .returned (.tuple #[]) ∧ w' = w := by
  obtain ⟨h1, h2, ev, h3, h4⟩ := h
  rcases h4 with ⟨rfl, rfl⟩ | ⟨rfl, n, h5⟩
  · go_enter Tryz.func56, Tryz.ntmps56
    go_wp2
    go_end0
    exact ⟨rfl, rfl⟩
  · obtain ⟨t', x', rfl⟩ := h5.iface
    clear h5
    go_enter Tryz.func56, Tryz.ntmps56
    go_wp2
    go_end0
    exact ⟨rfl, rfl⟩

theorem inside_any (b lo : Nat) (place : ByteArray) (code : Int) (ok : Bool) (n : Nat) (v : Value) (w : World) (h : Ck w b lo code ok) (hv : Flt w lo n v code) (hlo : b < lo) (hsz : lo ≤ w.heap.size) :
    Calls Tryz.prog 56 #[.pointer (some ⟨b, 0, none⟩), .string place, v] w fun e w' => e = .returned (.tuple #[]) ∧ Ck w' b lo code false ∧ Tch b w w' := by
  have hlt := h.lt
  obtain ⟨h1, h2, ev, h3, h4⟩ := h
  rcases h4 with ⟨rfl, rfl⟩ | ⟨rfl, m, h5⟩
  · have HW : Hid (∀ w', w' = (w.setCell ⟨b, 1, none⟩ (.iface 153 (.pointer (some ⟨w.heap.size, 0, none⟩)))).alloc (.cells #[.string place, v] 155) → Ck w' b lo code false ∧ Tch b w w') := by
      rintro w' rfl
      have hnb : (⟨b, 1, none⟩ : Addr).block ≠ w.heap.size := by show b ≠ _; omega
      have hk : ∀ k o u, lo ≤ k → w.cell? ⟨k, o, none⟩ = some u → ((w.setCell ⟨b, 1, none⟩ (.iface 153 (.pointer (some ⟨w.heap.size, 0, none⟩)))).alloc (.cells #[.string place, v] 155)).cell? ⟨k, o, none⟩ = some u := by
        intro k o u hk hc
        have := cell_lt hc
        rw [World.cell?_alloc_lt _ _ ⟨k, o, none⟩ (by simpa using this), World.cell?_setCell_other _ _ _ _ (by intro e; injection e with e1; omega)]
        exact hc
      refine ⟨⟨?_, ?_, _, ?_, .inr ⟨rfl, n + 1, ⟨w.heap.size, v, rfl, hsz, ?_, hv.keep hk⟩⟩⟩, ⟨⟨rfl, rfl, rfl, by simp, fun k hk hn => ?_⟩, fun o ho => ?_, fun o => ?_⟩⟩
      · rw [World.cell?_alloc_lt _ _ ⟨b, 0, none⟩ (by simpa using hlt), World.cell?_setCell_other _ _ _ _ (by intro e; injection e with e1 e2; omega)]; exact h1
      · rw [World.frozen?_alloc_old _ _ ⟨b, 1, none⟩ (by simpa using hnb)]; simpa using h2
      · rw [World.cell?_alloc_lt _ _ ⟨b, 1, none⟩ (by simpa using hlt)]; exact World.cell?_setCell_same _ _ _ h3
      · rw [World.cell?_alloc_at _ _ _ _ (by simp)]; rfl
      · rw [Below.heap_alloc _ _ k (by simpa using hk)]
        exact Below.heap_setCell w _ _ k (fun h => hn (by rw [h]))
      · rw [World.cell?_alloc_lt _ _ ⟨b, o, none⟩ (by simpa using hlt), World.cell?_setCell_other _ _ _ _ (by intro e; injection e with e1 e2; omega)]
      · rw [World.frozen?_alloc_old _ _ ⟨b, o, none⟩ (by simpa using hnb)]; simp
    obtain ⟨t', x', rfl⟩ := hv.iface
    clear hv
    go_enter Tryz.func56, Tryz.ntmps56
    go_wp2
    go_end0
    exact ⟨rfl, HW.out _ rfl⟩
  · obtain ⟨t', x', rfl⟩ := h5.iface
    have HK : Hid (Ck w b lo code false) := ⟨h1, h2, _, h3, .inr ⟨rfl, m, h5⟩⟩
    obtain ⟨t2, x2, rfl⟩ := hv.iface
    clear h5 hv
    go_enter Tryz.func56, Tryz.ntmps56
    go_wp2
    go_end0
    exact ⟨rfl, HK.out, Tch.refl _ _⟩

theorem need_any (b lo : Nat) (place : ByteArray) (code : Int) (ok hd : Bool) (w : World) (h : Ck w b lo code ok) (hlo : b < lo) (hsz : lo ≤ w.heap.size) :
    Calls Tryz.prog 58 #[.pointer (some ⟨b, 0, none⟩), .string place, .bool hd] w fun e w' => e = .returned (.tuple #[]) ∧ Ck w' b lo code (ok && hd) ∧ Tch b w w' := by
  cases hd with
  | true =>
    have HK : Hid (Ck w b lo code (ok && true)) := by show Ck w b lo code (ok && true); simpa using h
    clear h
    go_enter Tryz.func58, Tryz.ntmps58
    go_wp2
    go_end0
    exact ⟨rfl, HK.out, Tch.refl _ _⟩
  | false =>
    have hlt := h.lt
    have hb0 : Below w.heap.size w (w.alloc (.cells #[.int .i64 code] 118)) := (Below.refl _ _).alloc (Nat.le_refl _) _
    have HK : Hid (Ck (w.alloc (.cells #[.int .i64 code] 118)) b lo code ok ∧ Flt (w.alloc (.cells #[.int .i64 code] 118)) lo 0 (.iface 114 (.pointer (some ⟨w.heap.size, 0, none⟩))) code) :=
      ⟨h.below hb0, w.heap.size, rfl, hsz, by simp⟩
    have h1 := h.1
    clear h
    go_enter Tryz.func58, Tryz.ntmps58
    go_wp2_with (go_at_call 56; refine (inside_any b lo place code ok 0 _ _ HK.out.1 HK.out.2 hlo (by simp; omega)).mono ?_; rintro e w' ⟨rfl, r1, r2⟩)
    go_end0
    refine ⟨rfl, by simpa using r1, (Tch.of_below hlt hb0).trans r2⟩

theorem within_any (b bl : Nat) (place : ByteArray) (code n lo hi : Int) (ok : Bool) (w : World) (h : Ck w b bl code ok) (hlo : b < bl) (hsz : bl ≤ w.heap.size) :
    Calls Tryz.prog 91 #[.pointer (some ⟨b, 0, none⟩), .string place, .int .i64 n, .int .i64 lo, .int .i64 hi] w fun e w' => e = .returned (.tuple #[]) ∧ Ck w' b bl code (ok && (decide (lo ≤ n) && decide (n ≤ hi))) ∧ Tch b w w' := by
  have HK : Hid (Ck w b bl code ok) := h
  clear h
  by_cases h1 : lo ≤ n <;> by_cases h2 : n ≤ hi
  all_goals
    go_enter Tryz.func91, Tryz.ntmps91
    go_wp2_with (go_at_call 58; refine (need_any b bl place code ok _ _ HK.out hlo hsz).mono ?_; rintro e w' ⟨rfl, r1, r2⟩)
    go_end0
    refine ⟨rfl, ?_, r2⟩
    first
    | (rw [show (decide (lo ≤ n) && decide (n ≤ hi)) = true by rw [Bool.and_eq_true]; simp; omega]; exact r1)
    | (rw [show (decide (lo ≤ n) && decide (n ≤ hi)) = false by rw [Bool.and_eq_false_iff]; simp; omega]; exact r1)

/-- What a look answers: nothing wrong, or a chain of faults. -/
def FaultIs (w : World) (lo : Nat) (ok : Bool) (ev : Value) (code : Int) : Prop := (ok = true ∧ ev = .nilIface) ∨ (ok = false ∧ ∃ m, Flt w lo m ev code)
theorem FaultIs.mono {w : World} {lo lo' : Nat} {ok : Bool} {ev : Value} {code : Int} (h : FaultIs w lo ok ev code) (hl : lo' ≤ lo) : FaultIs w lo' ok ev code := by
  rcases h with h | ⟨h, m, h2⟩
  · exact .inl h
  · exact .inr ⟨h, m, h2.mono hl⟩
theorem inside_both (b lo : Nat) (place : ByteArray) (code : Int) (ok ok1 : Bool) (ev : Value) (w : World) (h : Ck w b lo code ok) (hf : FaultIs w lo ok1 ev code) (hlo : b < lo) (hsz : lo ≤ w.heap.size) :
    Calls Tryz.prog 56 #[.pointer (some ⟨b, 0, none⟩), .string place, ev] w fun e w' => e = .returned (.tuple #[]) ∧ Ck w' b lo code (ok && ok1) ∧ Tch b w w' := by
  rcases hf with ⟨rfl, rfl⟩ | ⟨rfl, m, hm⟩
  · refine (inside_nil b lo place code ok w h).mono ?_
    rintro e w' ⟨rfl, rfl⟩
    exact ⟨rfl, by rw [Bool.and_true]; exact h, Tch.refl _ _⟩
  · refine (inside_any b lo place code ok m ev w h hm hlo hsz).mono ?_
    rintro e w' ⟨rfl, h1, h2⟩
    exact ⟨rfl, by rw [Bool.and_false]; exact h1, h2⟩

theorem FaultIs.below {w w' : World} {lo : Nat} {ok : Bool} {ev : Value} {code : Int} (h : FaultIs w lo ok ev code) (hb : Below w.heap.size w w') : FaultIs w' lo ok ev code := by
  rcases h with h | ⟨h, m, h2⟩
  · exact .inl h
  · exact .inr ⟨h, m, h2.below hb⟩
theorem Ck.fault {w : World} {b lo : Nat} {code : Int} {ok : Bool} (h : Ck w b lo code ok) : ∃ ev, w.cell? ⟨b, 1, none⟩ = some ev ∧ FaultIs w lo ok ev code := by
  obtain ⟨_, _, ev, c3, c4⟩ := h
  exact ⟨ev, c3, c4⟩
end Go.Proofs.YtlimollpocagiaaGreatDoor

namespace Go.Proofs.YtlimollpocagiaaGreatDoor
set_option linter.unusedVariables false
set_option linter.unusedSimpArgs false
open Go.RowKit

/-- Integers as the cells of a struct or an array. -/
def cellsI (ds : List Int) : Array Value := (ds.map (Value.int .i64)).toArray
theorem cellsI_size (ds : List Int) : (cellsI ds).size = ds.length := by simp [cellsI]
theorem cellsI_get (ds : List Int) (k : Nat) (h : k < ds.length) : (cellsI ds)[k]? = some (.int .i64 (ds.getD k 0)) := by simp [cellsI, List.getD, h]
theorem cellsI_one (ds : List Int) : (cellsI ds).all (·.oneCell') = true := by
  rw [Array.all_eq_true_iff_forall_mem]
  intro v hv
  simp [cellsI] at hv
  obtain ⟨z, _, rfl⟩ := hv
  rfl
/-- A block of the call's own, whole. -/
def Blk (w : World) (b : Nat) (C : Array Value) (t : TypeId) : Prop := w.heap[b]? = some (.cells C t (0, 0))
theorem Blk.lt {w : World} {b : Nat} {C : Array Value} {t : TypeId} (h : Blk w b C t) : b < w.heap.size := (Array.getElem?_eq_some_iff.1 h).1
theorem Blk.cell {w : World} {b : Nat} {C : Array Value} {t : TypeId} (h : Blk w b C t) (k : Nat) : w.cell? ⟨b, k, none⟩ = C[k]? := cell_of_row w b k C t (0, 0) h
theorem Blk.frozen {w : World} {b : Nat} {C : Array Value} {t : TypeId} (h : Blk w b C t) (k : Nat) : w.frozen? ⟨b, k, none⟩ = false := frozen_of_row w b k C t h
theorem Blk.below {w w' : World} {b B : Nat} {C : Array Value} {t : TypeId} (h : Blk w b C t) (hb : Below B w w') (hB : b < B) : Blk w' b C t := (hb.block b hB).trans h
theorem Blk.set {w : World} {b : Nat} {C : Array Value} {t : TypeId} (h : Blk w b C t) (k : Nat) (v : Value) : Blk (w.setCell ⟨b, k, none⟩ v) b (C.setIfInBounds k v) t := heap_setCell_same w b k C t v h
theorem Blk.other {w : World} {b : Nat} {C : Array Value} {t : TypeId} (h : Blk w b C t) (a : Addr) (v : Value) (hne : b ≠ a.block) : Blk (w.setCell a v) b C t := (heap_setCell_other w a b v hne).trans h
theorem Blk.alloc {w : World} {b : Nat} {C : Array Value} {t : TypeId} (h : Blk w b C t) (o : Obj) : Blk (w.alloc o) b C t := (Below.heap_alloc w o b h.lt).trans h
theorem Blk.new (w : World) (C : Array Value) (t : TypeId) : Blk (w.alloc (.cells C t)) w.heap.size C t := heap_alloc_new w _
theorem Blk.range {w : World} {b : Nat} {ds : List Int} {t : TypeId} (h : Blk w b (cellsI ds) t) (o n : Nat) (hn : o + n ≤ ds.length) : w.rangeAt b o (((ds.drop o).take n).map (Value.int .i64)) := by
  intro j v hv
  rw [h.cell (o + j)]
  have hj : j < n := by
    rcases Nat.lt_or_ge j n with h1 | h1
    · exact h1
    · rw [List.getElem?_eq_none (by simp; omega)] at hv; cases hv
  simp [cellsI, hj] at hv ⊢
  exact hv

theorem Blk.row {w : World} {b : Nat} {C : Array Value} {t : TypeId} (h : Blk w b C t) (cs : Array Value) : Blk (w.setRow b cs) b cs t := by
  have h' : w.heap[b]? = some (.cells C t (0, 0)) := h
  show (w.setRow b cs).heap[b]? = _
  simp [World.setRow, Array.getElem?_modify, h']
/-- ds laid over xs from place o on. -/
def over (xs : List Int) (o : Nat) (ds : List Int) : List Int := xs.take o ++ ds ++ xs.drop (o + ds.length)
theorem over_len (xs : List Int) (o : Nat) (ds : List Int) (h : o + ds.length ≤ xs.length) : (over xs o ds).length = xs.length := by simp [over]; omega
theorem over_cons (xs : List Int) (o : Nat) (d : Int) (ds : List Int) (h : o + (d :: ds).length ≤ xs.length) : over (xs.set o d) (o + 1) ds = over xs o (d :: ds) := by
  have hl : o < xs.length := by simp at h; omega
  unfold over
  rw [List.take_succ_eq_append_getElem (by simpa using hl), List.take_set_of_le (Nat.le_refl _), List.getElem_set_self, List.drop_set_of_lt (by omega)]
  simp [Nat.add_assoc, Nat.add_comm 1]
theorem cellsI_set (xs : List Int) (o : Nat) (d : Int) : (cellsI xs).setIfInBounds o (.int .i64 d) = cellsI (xs.set o d) := by
  unfold cellsI
  apply Array.ext'
  rw [Array.toList_setIfInBounds]
  show (xs.map (Value.int .i64)).set o (Value.int .i64 d) = _
  rw [← List.map_set]
theorem Blk.cells {b : Nat} {t : TypeId} : ∀ (ds : List Int) {w : World} {xs : List Int} (o : Nat), Blk w b (cellsI xs) t → o + ds.length ≤ xs.length → Blk (w.setCells b o (ds.map (Value.int .i64))) b (cellsI (over xs o ds)) t
  | [], w, xs, o, h, _ => by simpa [over, World.setCells] using h
  | d :: ds, w, xs, o, h, hl => by
    have h1 := h.set o (.int .i64 d)
    rw [cellsI_set] at h1
    have h2 := Blk.cells ds (o + 1) h1 (by simp at hl ⊢; omega)
    rw [over_cons xs o d ds hl] at h2
    exact h2
theorem Blk.cells_other {b b' : Nat} {t : TypeId} {C : Array Value} : ∀ (vs : List Value) {w : World} (o : Nat), Blk w b' C t → b' ≠ b → Blk (w.setCells b o vs) b' C t
  | [], _, _, h, _ => h
  | v :: vs, _, o, h, hne => Blk.cells_other vs (o + 1) (h.other ⟨b, o, none⟩ v hne) hne
theorem below_cells {B b : Nat} {w0 : World} (hB : B ≤ b) : ∀ (vs : List Value) {w : World} (o : Nat), Below B w0 w → Below B w0 (w.setCells b o vs)
  | [], _, _, h => h
  | v :: vs, _, o, h => below_cells hB vs (o + 1) (h.setCell (p := ⟨b, o, none⟩) hB v)
theorem Blk.there {w : World} {b : Nat} {C : Array Value} {t : TypeId} (h : Blk w b C t) (o n : Nat) (hn : o + n ≤ C.size) : w.there b o n := fun j hj =>
  ⟨by rw [h.cell (o + j), Array.getElem?_eq_getElem (by omega)]; rfl, h.frozen _⟩

theorem set_cells (ds : List Int) (k n : Nat) (hk : k < n) (hd : ds.length = n) : (cellsI (ds.take k ++ List.replicate (n - k) 0)).setIfInBounds k (.int .i64 (ds.getD k 0)) = cellsI (ds.take (k + 1) ++ List.replicate (n - (k + 1)) 0) := by
  unfold cellsI
  apply Array.ext'
  rw [Array.toList_setIfInBounds]
  show ((ds.take k ++ List.replicate (n - k) 0).map (Value.int .i64)).set k (Value.int .i64 (ds.getD k 0)) = _
  rw [← List.map_set, set_fill ds (ds.getD k 0) 0 k n hk hd (by simp [List.getD, show k < ds.length by omega])]


theorem results_row_tmp {P : Program} {fn : Func} {p u : Tmp} {ty : TypeId} (h : fn.results = #[.cell p ty, .tmp u]) (tmps : Array Value) (w : World) (g : Nat) (t : TypeId) (cs : Array Value) (fr : Nat × Nat) (d : TypeDesc) (x : Value)
    (hp : tmps.getD p undef = .pointer (some ⟨g, 0, none⟩)) (hx : tmps.getD u undef = x) (hg : w.heap[g]? = some (.cells cs t fr))
    (hu : P.underlying ty = some d) (hd : (match d with | .struct _ | .array _ _ => true | _ => false) = true) (hi : (P.info? ty).map (·.size) = some cs.size) :
    (results fn tmps).run P w = .ok (.tuple #[.agg cs, x]) w := by
  rw [results_cell_tmp h, hp, hx]
  simp [asAddr, run_loadVar_row w g t ty cs fr d hg hu hd hi, Result.andThen]
end Go.Proofs.YtlimollpocagiaaGreatDoor

namespace Go.Proofs.YtlimollpocagiaaGreatDoor
set_option linter.unusedVariables false
set_option linter.unusedSimpArgs false
open Go.RowKit

def wordB (z : Int) : Bool := decide (0 ≤ z) && decide (z ≤ 4294967295)
def headB (i : Nat) (z : Int) : Bool := decide (2 ≤ i) || decide (z = 1)
def okTo (ws : List Int) : Nat → Bool
  | 0 => true
  | k + 1 => okTo ws k && (wordB (ws.getD k 0) && headB k (ws.getD k 0))
def sizeB (n : Nat) : Bool := decide (64 ≤ n) && decide (n ≤ 2048)
/-- A right map: chapter 5's word. -/
def rightM (ws : List Int) : Bool := sizeB ws.length && okTo ws ws.length

set_option maxRecDepth 100000 in
set_option maxHeartbeats 2000000 in
theorem mapFault_any (v : Value) (ws : List Int) (w : World) (h : Rd .i64 w v ws) :
    Calls Tryz.prog 57 #[v] w fun e w' => ∃ ev, e = .returned ev ∧ FaultIs w' w.heap.size (rightM ws) ev 7 ∧ Below w.heap.size w w' := by
  have hm := h.len
  unfold maxLen at hm
  have hb0 : Below w.heap.size w (w.alloc (.cells #[.int .i64 7, .nilIface] 100)) := (Below.refl _ _).alloc (Nat.le_refl _) _
  have K := hide (And.intro (Ck.fresh w 7 100) hb0)
  have HS := hide (show sizeB ws.length = (decide ((64 : Int) ≤ (ws.length : Int)) && decide ((ws.length : Int) ≤ 2048)) from by unfold sizeB; congr 1 <;> (apply decide_eq_decide.2; omega))
  have HR := hide (show ∀ b, okTo ws ws.length = b → rightM ws = (sizeB ws.length && b) from fun b hb => by unfold rightM; rw [hb])
  have HO := hide (show ∀ k, okTo ws (k + 1) = (okTo ws k && (wordB (ws.getD k 0) && headB k (ws.getD k 0))) from fun k => rfl)
  have H0 := hide (show okTo ws 0 = true from rfl)
  clear hb0
  rcases h.parts with ⟨a, cap, rfl, hlow⟩ | ⟨b, off, cap, rfl, hbw, hcell⟩
  all_goals
    clear h
    go_enter Tryz.func57, Tryz.ntmps57
    go_wp2_with (go_at_call 91; fail)
    refine (within_any w.heap.size (w.heap.size + 1) _ 7 _ 64 2048 true _ K.out.1 (by omega) (by simp)).mono ?_
    rintro e w1 ⟨rfl, hc1, ht1⟩
    rw [Bool.true_and, ← HS.out] at hc1
    have H1 := hide (And.intro hc1 (ht1.under K.out.2 (Nat.le_refl _) (by simp)))
    clear hc1 ht1 K
    go_wp2
    go_loopw [12] (fun i wr => ∃ k : Nat, k ≤ ws.length ∧ i = .int .i64 k ∧ Ck wr w.heap.size (w.heap.size + 1) 7 (sizeB ws.length && okTo ws k) ∧ Below w.heap.size w wr) (fun i _ => ws.length - (intOf i).toNat)
    case atStart => exact ⟨0, by omega, rfl, by rw [H0.out, Bool.and_true]; exact H1.out.1, H1.out.2⟩
    case round =>
      obtain ⟨k, hk, rfl, hck, hbel⟩ := hrel
      have HK := hide (And.intro hck hbel)
      have hlt1 := hck.lt
      clear hck hbel H1
      by_cases hlt : k < ws.length
      · first
        | omega
        | (have c1 := (HK.out.2.cell (p := ⟨b, off + k, none⟩) hbw).trans (hcell k hlt)
           have HT := hide (HO.out k)
           clear hcell
           generalize ws.getD k 0 = z at c1 HT
           go_wp2_with (go_at_call 91; fail)
           refine (within_any w.heap.size (w.heap.size + 1) _ 7 z 0 4294967295 _ _ HK.out.1 (by omega) (by omega)).mono ?_
           rintro e w2 ⟨rfl, hc2, ht2⟩
           have H2 := hide (And.intro hc2 (ht2.under HK.out.2 (Nat.le_refl _) (by omega)))
           have hlt2 := hc2.lt
           clear hc2 ht2 HK c1
           by_cases h2 : 2 ≤ k
           · have HH := hide (show headB k z = true from by simp [headB, h2])
             go_wp2_with (go_at_call 58; refine (need_any w.heap.size (w.heap.size + 1) _ 7 _ true _ H2.out.1 (by omega) (by omega)).mono ?_; rintro e w3 ⟨rfl, hc3, ht3⟩)
             have H3 := hide (And.intro hc3 (ht3.under H2.out.2 (Nat.le_refl _) (by omega)))
             clear hc3 ht3
             go_roundw
             case rel => exact ⟨k + 1, by omega, by go_num, by rw [HT.out, HH.out, ← Bool.and_assoc, ← Bool.and_assoc]; exact H3.out.1, H3.out.2⟩
             case measure => simp [intOf]; omega
           · have HH := hide (show headB k z = (decide ((2 : Int) ≤ (k : Int)) || z == 1) from by unfold headB; congr 1; apply decide_eq_decide.2; omega)
             go_wp2_with (go_at_call 58; refine (need_any w.heap.size (w.heap.size + 1) _ 7 _ _ _ H2.out.1 (by omega) (by omega)).mono ?_; rintro e w3 ⟨rfl, hc3, ht3⟩)
             have H3 := hide (And.intro hc3 (ht3.under H2.out.2 (Nat.le_refl _) (by omega)))
             clear hc3 ht3
             go_roundw
             case rel => exact ⟨k + 1, by omega, by go_num, by rw [HT.out, HH.out, ← Bool.and_assoc, ← Bool.and_assoc]; exact H3.out.1, H3.out.2⟩
             case measure => simp [intOf]; omega)
      · have ek : k = ws.length := by omega
        obtain ⟨ev, c3, hf⟩ := HK.out.1.fault
        have HF := hide (And.intro hf (And.intro HK.out.2 ek))
        clear hf ek HK
        go_wp2
        go_ret
        refine ⟨ev, rfl, ?_, HF.out.2.1⟩
        have h := HF.out.1
        rw [HF.out.2.2] at h
        exact h.mono (by omega)

/-- The model's look. -/
theorem okTo_mono (ws : List Int) : ∀ (n k : Nat), k ≤ n → okTo ws n = true → okTo ws k = true
  | 0, k, hk, h => by have : k = 0 := by omega
                      subst this; exact h
  | n + 1, k, hk, h => by
    by_cases e : k = n + 1
    · subst e; exact h
    · have h' : (okTo ws n && (wordB (ws.getD n 0) && headB n (ws.getD n 0))) = true := h
      rw [Bool.and_eq_true] at h'
      exact okTo_mono ws n k (by omega) h'.1
theorem okTo_false (ws : List Int) (n k : Nat) (hk : k < n) (h : (wordB (ws.getD k 0) && headB k (ws.getD k 0)) = false) : okTo ws n = false := by
  cases e : okTo ws n with
  | false => rfl
  | true =>
    have h1 := okTo_mono ws n (k + 1) (by omega) e
    have h2 : (okTo ws k && (wordB (ws.getD k 0) && headB k (ws.getD k 0))) = true := h1
    rw [h, Bool.and_false] at h2
    cases h2

set_option maxRecDepth 100000 in
set_option maxHeartbeats 400000 in
theorem right_any (v : Value) (ws : List Int) (w : World) (h : Rd .i64 w v ws) :
    Calls Tryz.prog 31 #[v] w fun e w' => e = .returned (.bool (rightM ws)) ∧ w' = w := by
  have hm := h.len
  unfold maxLen at hm
  by_cases h1 : ws.length < 64
  · have HR := hide (show rightM ws = false from by simp [rightM, sizeB]; omega)
    obtain ⟨a, cap, rfl, _⟩ := h
    go_enter Tryz.func31, Tryz.ntmps31
    go_wp2
    go_ret
    exact ⟨ret_bool HR.out.symm, rfl⟩
  · by_cases h2 : 2048 < ws.length
    · have HR := hide (show rightM ws = false from by simp [rightM, sizeB]; omega)
      obtain ⟨a, cap, rfl, _⟩ := h
      go_enter Tryz.func31, Tryz.ntmps31
      go_wp2
      go_ret
      exact ⟨ret_bool HR.out.symm, rfl⟩
    · obtain ⟨b, off, cap, rfl, hbw, _, _, hcell⟩ := h.partsC (by omega)
      have HZ := hide (show rightM ws = okTo ws ws.length from by
        have e : sizeB ws.length = true := by simp [sizeB]; omega
        rw [rightM, e, Bool.true_and])
      have HF := hide (okTo_false ws ws.length)
      have HO := hide (show ∀ k, okTo ws (k + 1) = (okTo ws k && (wordB (ws.getD k 0) && headB k (ws.getD k 0))) from fun k => rfl)
      have c0 := hcell 0 (by omega)
      have c1 := hcell 1 (by omega)
      rw [Nat.add_zero] at c0
      by_cases h3 : ws.getD 0 0 = 1
      · by_cases h4 : ws.getD 1 0 = 1
        · rw [h3] at c0
          rw [h4] at c1
          have HH := hide (show ∀ k, headB k (ws.getD k 0) = true from fun k => by
            unfold headB
            by_cases hk : 2 ≤ k
            · simp [hk]
            · have : k = 0 ∨ k = 1 := by omega
              rcases this with rfl | rfl
              · rw [h3]; simp
              · rw [h4]; simp)
          have H0 := hide (show okTo ws 0 = true from rfl)
          have HC := hide hcell
          clear h3 h4 hcell h
          go_enter Tryz.func31, Tryz.ntmps31
          go_wp2
          go_loop [27] (fun i => ∃ k : Nat, k ≤ ws.length ∧ i = .int .i64 k ∧ okTo ws k = true) (fun i => ws.length - (intOf i).toNat)
          case atStart => exact ⟨0, by omega, rfl, H0.out⟩
          case round =>
            obtain ⟨k, hk, rfl, hok⟩ := hrel
            have HK := hide hok
            clear hok c0 c1
            by_cases hlt : k < ws.length
            · have ck := HC.out k hlt
              have HT := hide (HO.out k)
              have HE := hide (HF.out k hlt)
              rw [HH.out k, Bool.and_true] at HT HE
              generalize ws.getD k 0 = z at ck HT HE
              by_cases hz0 : z < 0
              · have hw := hide (show wordB z = false from by simp [wordB]; omega)
                go_wp2
                go_ret
                exact ⟨ret_bool (by rw [HZ.out, HE.out hw.out]), rfl⟩
              · by_cases hz1 : 4294967295 < z
                · have hw := hide (show wordB z = false from by simp [wordB]; omega)
                  go_wp2
                  go_ret
                  exact ⟨ret_bool (by rw [HZ.out, HE.out hw.out]), rfl⟩
                · have hw := hide (show wordB z = true from by simp [wordB]; omega)
                  go_wp2
                  go_round
                  case rel => exact ⟨k + 1, by omega, by go_num, by rw [HT.out, HK.out, hw.out]; rfl⟩
                  case measure => simp [intOf]; omega
            · have ek : k = ws.length := by omega
              have HE := hide (show okTo ws ws.length = true from by rw [← ek]; exact HK.out)
              clear ek
              go_wp2
              go_ret
              exact ⟨ret_bool (by rw [HZ.out, HE.out]), rfl⟩
        · have HR := hide (show okTo ws ws.length = false from HF.out 1 (by omega) (by simp [headB]; intro _; exact h4))
          have hq : (ws.getD 1 0 != 1) = true := by simpa using h4
          rw [h3] at c0
          generalize ws.getD 1 0 = z1 at c1 hq
          clear h3 h4 hcell h
          go_enter Tryz.func31, Tryz.ntmps31
          go_wp2
          go_ret
          exact ⟨ret_bool (by rw [HZ.out, HR.out]), rfl⟩
      · have HR := hide (show okTo ws ws.length = false from HF.out 0 (by omega) (by simp [headB]; intro _; exact h3))
        have hq : (ws.getD 0 0 != 1) = true := by simpa using h3
        generalize ws.getD 0 0 = z0 at c0 hq
        clear h3 hcell h c1
        go_enter Tryz.func31, Tryz.ntmps31
        go_wp2
        go_ret
        exact ⟨ret_bool (by rw [HZ.out, HR.out]), rfl⟩
end Go.Proofs.YtlimollpocagiaaGreatDoor
