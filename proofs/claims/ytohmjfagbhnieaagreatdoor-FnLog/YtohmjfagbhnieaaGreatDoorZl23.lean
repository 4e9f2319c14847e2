/- The program's reader of a block with letters and a sum: newBlockReader. -/
import Derived.Test.YtohmjfagbhnieaaGreatDoorZl19
import Derived.Test.YtohmjfagbhnieaaGreatDoorZl20
import Derived.Test.YtohmjfagbhnieaaGreatDoorZl22
import Derived.Deep.RegionHeld3
import Derived.Deep.MidRow
import Derived.Laws.CopyOwn
import Derived.Lib.SlBuf
namespace Go.Proofs.YtohmjfagbhnieaaGreatDoor
set_option linter.unusedVariables false
set_option linter.unusedSimpArgs false
open Go.RowKit

theorem newReader2_any (v : Value) (zs : List Int) (w : World) (h : Rd .u8 w v zs) :
    Calls Tryz.prog 47 #[v] w fun e w' => e = .returned (.pointer (some ⟨w.heap.size, 0, none⟩)) ∧ Rdr w w' w.heap.size (w.heap.size + 1) true v zs 0 ∧ w'.frozen? ⟨w.heap.size, 2, none⟩ = false ∧ Below w.heap.size w w' := by
  have H := hide h
  obtain ⟨a, cap, rfl, _⟩ := h
  have HR := hide (show Rdr w (w.alloc (.cells #[.int .i64 21, .nilIface, .slice a zs.length cap, .int .i64 0] 98)) w.heap.size (w.heap.size + 1) true (.slice a zs.length cap) zs 0 ∧ (w.alloc (.cells #[.int .i64 21, .nilIface, .slice a zs.length cap, .int .i64 0] 98)).frozen? ⟨w.heap.size, 2, none⟩ = false ∧ Below w.heap.size w (w.alloc (.cells #[.int .i64 21, .nilIface, .slice a zs.length cap, .int .i64 0] 98)) from by
    have hb : Below w.heap.size w (w.alloc (.cells #[.int .i64 21, .nilIface, .slice a zs.length cap, .int .i64 0] 98)) := (Below.refl _ _).alloc (Nat.le_refl _) _
    exact ⟨⟨⟨by simp, by simp, .nilIface, by simp, .inl ⟨rfl, rfl⟩⟩, by simp, by simp, by simp, hb, rfl, H.out, by omega, by omega, by simp⟩, by simp, hb⟩)
  go_enter Tryz.func47, Tryz.ntmps47
  go_wp2
  go_ret
  exact ⟨rfl, HR.out⟩
/-- A reader without a fault that is given other bytes to read. -/
theorem Rdr.setData {w0 w : World} {b lo : Nat} {dv dv' : Value} {zs ys : List Int} {pos : Nat} (h : Rdr w0 w b lo true dv zs pos) (hr : Rd .u8 w0 dv' ys) (hp : pos ≤ ys.length) : Rdr w0 (w.setCell ⟨b, 2, none⟩ dv') b lo true dv' ys pos := by
  have ho : ∀ o, o ≠ 2 → (⟨b, 2, none⟩ : Addr) ≠ ⟨b, o, none⟩ := fun o ho e => by injection e with e1 e2; omega
  obtain ⟨c1, c2, ev, c3, c4⟩ := h.ck
  refine ⟨⟨?_, ?_, ev, ?_, ?_⟩, ?_, ?_, ?_, ?_, h.size, hr, hp, h.lo1, ?_⟩
  · exact (World.cell?_setCell_other w ⟨b, 2, none⟩ ⟨b, 0, none⟩ _ (ho 0 (by omega))).trans c1
  · have := c2; simpa using this
  · exact (World.cell?_setCell_other w ⟨b, 2, none⟩ ⟨b, 1, none⟩ _ (ho 1 (by omega))).trans c3
  · rcases c4 with c4 | ⟨c4, _⟩
    · exact .inl c4
    · cases c4
  · exact World.cell?_setCell_same w ⟨b, 2, none⟩ _ h.data
  · exact (World.cell?_setCell_other w ⟨b, 2, none⟩ ⟨b, 3, none⟩ _ (ho 3 (by omega))).trans h.at_
  · have := h.fr; simpa using this
  · exact h.old.setCell (Nat.le_refl _) _
  · have := h.lo2; simpa using this
theorem Rdr.belowOk {w0 w w' : World} {b lo B : Nat} {dv : Value} {zs : List Int} {pos : Nat} (h : Rdr w0 w b lo true dv zs pos) (hb : Below B w w') (hB : b < B) : Rdr w0 w' b lo true dv zs pos := by
  obtain ⟨c1, c2, ev, c3, c4⟩ := h.ck
  have hc : ∀ o, w'.cell? ⟨b, o, none⟩ = w.cell? ⟨b, o, none⟩ := fun o => hb.cell (p := ⟨b, o, none⟩) hB
  have hf : ∀ o, w'.frozen? ⟨b, o, none⟩ = w.frozen? ⟨b, o, none⟩ := fun o => hb.frozen (p := ⟨b, o, none⟩) hB
  refine ⟨⟨(hc 0).trans c1, (hf 1).trans c2, ev, (hc 1).trans c3, ?_⟩, (hc 2).trans h.data, (hc 3).trans h.at_, (hf 3).trans h.fr, h.old.trans (hb.mono (Nat.le_of_lt hB)), h.size, h.rd, h.le, h.lo1, Nat.le_trans h.lo2 hb.size⟩
  rcases c4 with c4 | ⟨c4, _⟩
  · exact .inl c4
  · cases c4
/-- What newBlockReader makes of bytes and letters: no fault where they are a block, its sum and its letters right. -/
def BlkRd (zs L : List Int) (ok : Bool) (ys : List Int) (pos : Nat) : Prop :=
  (zs.length ≠ 512 ∧ ok = false ∧ pos = 0 ∧ ys = zs) ∨ (zs.length = 512 ∧ ys = zs.take 508 ∧ ok = (decide (unle ((zs.drop 508).take 4) = Crc.crc (zs.take 508)) && decide (zs.take 8 = L)) ∧ pos ≤ 8 ∧ (ok = true → pos = 8))
def cellsU (xs : List Int) : Array Value := (xs.map (Value.int .u8)).toArray
theorem cellsOfU8 : Tryz.prog.cellsOf 5 = 1 := by kernel_rfl
theorem cellsU_get (xs : List Int) (i : Nat) (h : i < xs.length) : (cellsU xs)[i]? = some (.int .u8 (xs.getD i 0)) := by
  simp [cellsU, List.getD, h]
theorem eqItems_u8 (w : World) (d : Nat) (xs ys : List Int) : ∀ (is : List Nat), (∀ i ∈ is, i < xs.length ∧ i < ys.length) →
    (Op.eqItems (d + 1) 5 1 (cellsU xs) (cellsU ys) is).run Tryz.prog w = .ok (is.all fun i => xs.getD i 0 == ys.getD i 0) w
  | [], _ => by simp [Op.eqItems]
  | i :: is, h => by
    have hi := h i (by simp)
    exact eqItems_cons w (part_one w Tryz.underlying5 (by rw [Nat.mul_one]; exact cellsU_get xs i hi.1)) (part_one w Tryz.underlying5 (by rw [Nat.mul_one]; exact cellsU_get ys i hi.2)) (run_equalIn_int w d 5 .u8 .u8 _ _ Tryz.underlying5) (eqItems_u8 w d xs ys is (fun j hj => h j (by simp [hj])))
theorem all8 (xs ys : List Int) (hx : xs.length = 8) (hy : ys.length = 8) : ((List.range 8).all fun i => xs.getD i 0 == ys.getD i 0) = decide (xs = ys) := by
  rw [Bool.eq_iff_iff]
  simp only [List.all_eq_true, List.mem_range, beq_iff_eq, decide_eq_true_eq]
  constructor
  · intro h
    apply List.ext_getElem (by omega)
    intro i h1 h2
    have := h i (by omega)
    simpa [List.getD, h1, h2] using this
  · rintro rfl i _
    rfl
theorem yieldsIf_eqlU {P : Program} {ops : Array Oper} {S : World → Prop} {o : Oper} {a : Act} (hw : Region.wanted o (yielded ops a.tmps) = true) (t u : TypeId) (x y : Operand) (ho : o.op = .binOp .eql t x y u)
    (cs ds : Array Value) (hx : a.eval x = .agg cs) (hy : a.eval y = .agg ds) (hm : P.eqGuardType P.depth t = false) (b : Bool) (hE : ∀ w, (Op.equalIn 10000 t (.agg cs) (.agg ds)).run P w = .ok b w) : YieldsIf P ops S o (.bool b) a :=
  .inl ⟨hw, fun w hw' => by simp [execOp, ho, hx, hy, run_eqGuard_agg w _ _ _ _ _ _ hm, run_eql_struct, hE w, Result.andThen]⟩
theorem let_range {w : World} {b : Nat} {t : TypeId} {xs : List Int} (h : Blk w b (cellsU xs) t) : w.rangeAt b 0 (xs.map (Value.int .u8)) := by
  intro j v hv
  rw [Nat.zero_add, h.cell j]
  simpa [cellsU] using hv

end Go.Proofs.YtohmjfagbhnieaaGreatDoor
