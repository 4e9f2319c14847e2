/- The program's reader of a block with letters and a sum: newBlockReader. -/
import Derived.Test.YtkbbnflblkkepaaGreatDoorZm06
import Derived.Test.YtkbbnflblkkepaaGreatDoorZm21
import Derived.Test.YtkbbnflblkkepaaGreatDoorZm25
import Derived.Deep.RegionHeld3
import Derived.Deep.MidRow
import Derived.Laws.CopyOwn
import Derived.Lib.SlBuf
namespace Go.Proofs.YtkbbnflblkkepaaGreatDoor
set_option linter.unusedVariables false
set_option linter.unusedSimpArgs false
open Go.RowKit

theorem newReader2_any (v : Value) (zs : List Int) (w : World) (h : Rd .u8 w v zs) :
    Calls Tryz.prog 63 #[v] w fun e w' => e = .returned (.pointer (some ⟨w.heap.size, 0, none⟩)) ∧ Rdr w w' w.heap.size (w.heap.size + 1) true v zs 0 ∧ w'.frozen? ⟨w.heap.size, 2, none⟩ = false ∧ Below w.heap.size w w' := by
  have H := hide h
  obtain ⟨a, cap, rfl, _⟩ := h
  have HR := hide (show Rdr w (w.alloc (.cells #[.int .i64 21, .nilIface, .slice a zs.length cap, .int .i64 0] 101)) w.heap.size (w.heap.size + 1) true (.slice a zs.length cap) zs 0 ∧ (w.alloc (.cells #[.int .i64 21, .nilIface, .slice a zs.length cap, .int .i64 0] 101)).frozen? ⟨w.heap.size, 2, none⟩ = false ∧ Below w.heap.size w (w.alloc (.cells #[.int .i64 21, .nilIface, .slice a zs.length cap, .int .i64 0] 101)) from by
    have hb : Below w.heap.size w (w.alloc (.cells #[.int .i64 21, .nilIface, .slice a zs.length cap, .int .i64 0] 101)) := (Below.refl _ _).alloc (Nat.le_refl _) _
    exact ⟨⟨⟨by simp, by simp, .nilIface, by simp, .inl ⟨rfl, rfl⟩⟩, by simp, by simp, by simp, hb, rfl, H.out, by omega, by omega, by simp⟩, by simp, hb⟩)
  go_enter Tryz.func63, Tryz.ntmps63
  go_wp2
  go_ret
  exact ⟨rfl, HR.out⟩
/-- A reader without a fault that is given other bytes to read. -/
theorem Rdr.setData {w0 w : World} {b lo : Nat} {dv dv' : Value} {zs ys : List Int} {pos : Nat} (h : Rdr w0 w b lo true dv zs pos) (hr : Rd .u8 w0 dv' ys) (hp : pos ≤ ys.length) : Rdr w0 (w.setCell ⟨b, 2, none⟩ dv') b lo true dv' ys pos := by
  have ho : ∀ o, o ≠ 2 → (⟨b, 2, none⟩ : Addr) ≠ ⟨b, o, none⟩ := fun o ho e => by injection e with e1 e2; omega
  obtain ⟨c1, c2, ev, c3, c4⟩ := h.ck
  refine ⟨⟨?_, ?_, ev, ?_, ?_⟩, ?_, ?_, ?_, ?_, h.size, hr, hp, h.lo1, ?_⟩
  · exact (World.cell?_setCell_other w ⟨b, 2, none⟩ ⟨b, 0, none⟩ _ (ho 0 (by omega))).trans c1
  · have := c2; simpa using this
  · exact (World.cell?_setCell_other w ⟨b, 2, none⟩ ⟨b, 1, none⟩ _ (ho 1 (by omega))).trans c3
  · rcases c4 with c4 | ⟨c4, _⟩
    · exact .inl c4
    · cases c4
  · exact World.cell?_setCell_same w ⟨b, 2, none⟩ _ h.data
  · exact (World.cell?_setCell_other w ⟨b, 2, none⟩ ⟨b, 3, none⟩ _ (ho 3 (by omega))).trans h.at_
  · have := h.fr; simpa using this
  · exact h.old.setCell (Nat.le_refl _) _
  · have := h.lo2; simpa using this
theorem Rdr.belowOk {w0 w w' : World} {b lo B : Nat} {dv : Value} {zs : List Int} {pos : Nat} (h : Rdr w0 w b lo true dv zs pos) (hb : Below B w w') (hB : b < B) : Rdr w0 w' b lo true dv zs pos := by
  obtain ⟨c1, c2, ev, c3, c4⟩ := h.ck
  have hc : ∀ o, w'.cell? ⟨b, o, none⟩ = w.cell? ⟨b, o, none⟩ := fun o => hb.cell (p := ⟨b, o, none⟩) hB
  have hf : ∀ o, w'.frozen? ⟨b, o, none⟩ = w.frozen? ⟨b, o, none⟩ := fun o => hb.frozen (p := ⟨b, o, none⟩) hB
  refine ⟨⟨(hc 0).trans c1, (hf 1).trans c2, ev, (hc 1).trans c3, ?_⟩, (hc 2).trans h.data, (hc 3).trans h.at_, (hf 3).trans h.fr, h.old.trans (hb.mono (Nat.le_of_lt hB)), h.size, h.rd, h.le, h.lo1, Nat.le_trans h.lo2 hb.size⟩
  rcases c4 with c4 | ⟨c4, _⟩
  · exact .inl c4
  · cases c4
/-- What newBlockReader makes of bytes and letters: no fault where they are a block, its sum and its letters right. -/
def BlkRd (zs L : List Int) (ok : Bool) (ys : List Int) (pos : Nat) : Prop :=
  (zs.length ≠ 512 ∧ ok = false ∧ pos = 0 ∧ ys = []) ∨ (zs.length = 512 ∧ ys = zs.take 508 ∧ ok = (decide (unle ((zs.drop 508).take 4) = Crc.crc (zs.take 508)) && decide (zs.take 8 = L)) ∧ pos ≤ 8 ∧ (ok = true → pos = 8))
def cellsU (xs : List Int) : Array Value := (xs.map (Value.int .u8)).toArray
theorem infoLet : (Tryz.prog.info? 94).map (·.size) = some 8 := by kernel_rfl
theorem cellsOfU8 : Tryz.prog.cellsOf 5 = 1 := by kernel_rfl
theorem guardLet : Tryz.prog.eqGuardType Tryz.prog.depth 94 = false := by kernel_rfl
theorem cellsU_get (xs : List Int) (i : Nat) (h : i < xs.length) : (cellsU xs)[i]? = some (.int .u8 (xs.getD i 0)) := by
  simp [cellsU, List.getD, h]
theorem eqItems_u8 (w : World) (d : Nat) (xs ys : List Int) : ∀ (is : List Nat), (∀ i ∈ is, i < xs.length ∧ i < ys.length) →
    (Op.eqItems (d + 1) 5 1 (cellsU xs) (cellsU ys) is).run Tryz.prog w = .ok (is.all fun i => xs.getD i 0 == ys.getD i 0) w
  | [], _ => by simp [Op.eqItems]
  | i :: is, h => by
    have hi := h i (by simp)
    exact eqItems_cons w (part_one w Tryz.underlying5 (by rw [Nat.mul_one]; exact cellsU_get xs i hi.1)) (part_one w Tryz.underlying5 (by rw [Nat.mul_one]; exact cellsU_get ys i hi.2)) (run_equalIn_int w d 5 .u8 .u8 _ _ Tryz.underlying5) (eqItems_u8 w d xs ys is (fun j hj => h j (by simp [hj])))
theorem all8 (xs ys : List Int) (hx : xs.length = 8) (hy : ys.length = 8) : ((List.range 8).all fun i => xs.getD i 0 == ys.getD i 0) = decide (xs = ys) := by
  rw [Bool.eq_iff_iff]
  simp only [List.all_eq_true, List.mem_range, beq_iff_eq, decide_eq_true_eq]
  constructor
  · intro h
    apply List.ext_getElem (by omega)
    intro i h1 h2
    have := h i (by omega)
    simpa [List.getD, h1, h2] using this
  · rintro rfl i _
    rfl
theorem eqLet (w : World) (xs ys : List Int) (hx : xs.length = 8) (hy : ys.length = 8) : (Op.equalIn 10000 94 (.agg (cellsU xs)) (.agg (cellsU ys))).run Tryz.prog w = .ok (decide (xs = ys)) w := by
  obtain ⟨i0, hi, hz0, hz1, hz2⟩ := info_parts infoU8
  rw [run_equalIn_array w 9999 _ _ Tryz.underlying94 hi, cellsOfU8, eqItems_u8 w 9998 xs ys (List.range 8) (by intro i hi; simp at hi; omega), all8 xs ys hx hy]
theorem yieldsIf_eqlU {P : Program} {ops : Array Oper} {S : World → Prop} {o : Oper} {a : Act} (hw : Region.wanted o (yielded ops a.tmps) = true) (t u : TypeId) (x y : Operand) (ho : o.op = .binOp .eql t x y u)
    (cs ds : Array Value) (hx : a.eval x = .agg cs) (hy : a.eval y = .agg ds) (hm : P.eqGuardType P.depth t = false) (b : Bool) (hE : ∀ w, (Op.equalIn 10000 t (.agg cs) (.agg ds)).run P w = .ok b w) : YieldsIf P ops S o (.bool b) a :=
  .inl ⟨hw, fun w hw' => by simp [execOp, ho, hx, hy, run_eqGuard_agg w _ _ _ _ _ _ hm, run_eql_struct, hE w, Result.andThen]⟩
theorem let_range {w : World} {b : Nat} {t : TypeId} {xs : List Int} (h : Blk w b (cellsU xs) t) : w.rangeAt b 0 (xs.map (Value.int .u8)) := by
  intro j v hv
  rw [Nat.zero_add, h.cell j]
  simpa [cellsU] using hv

set_option maxRecDepth 100000 in
set_option maxHeartbeats 4000000 in
theorem sealedRd_any (v : Value) (zs L : List Int) (w : World) (hL : L.length = 8) (h : Rd .u8 w v zs) (hbd : ∀ z ∈ zs, 0 ≤ z ∧ z < 256) (hz : zs.length ≤ 140737488355328) (hlen : zs.length = 512) :
    Calls Tryz.prog 64 #[v, .agg (cellsU L)] w fun e w' => ∃ w0 b lo ok dv ys pos, e = .returned (.pointer (some ⟨b, 0, none⟩)) ∧ Rdr w0 w' b lo ok dv ys pos ∧ Below w.heap.size w w' ∧ w.heap.size ≤ b ∧ BlkRd zs L ok ys pos := by
  have H := hide h
  have HBd := hide hbd
  have HL := hide hL
  obtain ⟨W0, hW0⟩ : ∃ W0, W0 = w.alloc (.cells (cellsU L) 94) := ⟨_, rfl⟩
  have hs0 : w.heap.size < W0.heap.size := by rw [hW0]; simp
  have K0 := hide (show Blk W0 w.heap.size (cellsU L) 94 ∧ Below w.heap.size w W0 from by rw [hW0]; exact ⟨Blk.new _ _ _, (Below.refl _ _).alloc (Nat.le_refl _) _⟩)
  have HR0 := hide (H.out.below K0.out.2)
  have HW0 := hide hW0
  clear hW0
  obtain ⟨a, cap, rfl⟩ : ∃ a cap, v = .slice a zs.length cap := by obtain ⟨a, cap, h1, _⟩ := h; exact ⟨a, cap, h1⟩
  clear h hbd hL
  obtain ⟨bd, off, cap', ee, hbw, hcl, hcm, hcell⟩ := HR0.out.partsC (by omega)
  injection ee with e1 e2 e3
  subst e1 e3
  have HC := hide (And.intro hbw hcell)
  unfold maxLen at hcm
  rw [hlen] at hcl
  have HT := hide (show Rd .u8 W0 (.slice (some ⟨bd, off + 508, none⟩) 4 (cap - 508)) ((zs.drop 508).take 4) from Rd.cut2 508 4 HR0.out (by omega) (by omega))
  have HS := hide (show Rd .u8 W0 (.slice (some ⟨bd, off, none⟩) 508 cap) (zs.take 508) from by have := Rd.cut2 0 508 HR0.out (by omega) (by omega); simpa using this)
  have HLen := hide hlen
  rw [hlen]
  clear hcell hlen e2
  go_enter Tryz.func64, Tryz.ntmps64
  go_wp2_with (go_at_call 63; fail)
  rw [← HW0.out]
  have HR0' := HR0.out
  rw [HLen.out] at HR0'
  refine (newReader2_any _ zs _ HR0').mono ?_
  clear HR0'
  rintro e w1 ⟨rfl, r1, f1, b1⟩
  have R1 := hide r1
  have F1 := hide f1
  have hl1 := r1.ck.lt
  have B1 := hide b1
  clear r1 f1 b1
  go_wp2_with (go_at_call 50; fail)
  refine (need_any W0.heap.size (W0.heap.size + 1) _ 21 true true _ R1.out.ck R1.out.lo1 R1.out.lo2).mono ?_
  rintro e w2 ⟨rfl, hc, ht⟩
  rw [Bool.true_and] at hc
  have R2 := hide (R1.out.tch hc ht)
  have F2 := hide ((ht.2.2 2).trans F1.out)
  have B2 := hide (ht.under B1.out (Nat.le_refl _) (Nat.le_of_lt hl1))
  have c2 : w2.cell? ⟨W0.heap.size, 1, none⟩ = some .nilIface := by
    obtain ⟨_, _, ev, c3, c4⟩ := hc
    rcases c4 with ⟨_, rfl⟩ | ⟨c4, _⟩
    · exact c3
    · cases c4
  have hl2 := R2.out.ck.lt
  clear hc ht R1 F1 B1
  go_wp2_with (go_at_call 63; fail)
  refine (newReader2_any _ ((zs.drop 508).take 4) _ (HT.out.below (by have := B2.out; exact this))).mono ?_
  rintro e w3 ⟨rfl, r3, f3, b3⟩
  have R3 := hide r3
  have B3 := hide b3
  clear r3 f3 b3
  go_wp2_with (go_at_call 66; fail)
  refine (number32_any _ _ _ _ true _ ((zs.drop 508).take 4) 0 R3.out (by simp; omega) (fun z hz => HBd.out z (List.mem_of_mem_drop (List.mem_of_mem_take hz)))).mono ?_
  rintro e w4 ⟨x, rfl, hN⟩
  have B4 := hide (show Below w2.heap.size w2 w4 from B3.out.grown hN.1 B3.out.size (fun k e => by cases e; exact Nat.le_refl _))
  have HX := hide (show x = unle ((zs.drop 508).take 4) ∧ x < 4294967296 from by
    have hl4 : ((zs.drop 508).take 4).length = 4 := by simp [HLen.out]
    rcases hN.2 with ⟨_, _, hx, _⟩ | ⟨hno, _, _⟩
    · have hx2 : x = unle ((zs.drop 508).take 4) := by rw [hx]; congr 1; rw [List.drop_zero, List.take_of_length_le (by omega)]
      refine ⟨hx2, ?_⟩
      have := unle_lt ((zs.drop 508).take 4) (fun z hz => HBd.out z (List.mem_of_mem_drop (List.mem_of_mem_take hz)))
      rw [hl4, ← hx2] at this
      exact this
    · exact absurd ⟨rfl, by omega⟩ hno)
  have R4 := hide (R2.out.below B4.out)
  have hx4 : (x : Int) < 4294967296 := by have := HX.out.2; omega
  have d4 := R4.out.data
  have f4 : w4.frozen? ⟨W0.heap.size, 2, none⟩ = false := (B4.out.frozen (p := ⟨W0.heap.size, 2, none⟩) hl2).trans F2.out
  have R5 := hide (R4.out.setData (dv' := .slice (some ⟨bd, off, none⟩) 508 cap) (ys := zs.take 508) HS.out (by omega))
  have HB5 := hide (show Below W0.heap.size W0 (w4.setCell ⟨W0.heap.size, 2, none⟩ (.slice (some ⟨bd, off, none⟩) 508 cap)) from (B2.out.trans (B4.out.mono B2.out.size)).setCell (Nat.le_refl _) _)
  clear hN R3 B3 R2 F2 c2
  go_wp2_with fail
  clear d4 f4
  obtain ⟨w5, hw5⟩ : ∃ w5, w5 = w4.setCell ⟨W0.heap.size, 2, none⟩ (.slice (some ⟨bd, off, none⟩) 508 cap) := ⟨_, rfl⟩
  rw [← hw5] at R5 HB5 ⊢
  clear hw5
  obtain ⟨c, hcc⟩ : ∃ c, c = Crc.crc (zs.take 508) := ⟨_, rfl⟩
  have hc4 : (c : Int) < 4294967296 := by have := crc_lt (zs.take 508) (fun z hz => HBd.out z (List.mem_of_mem_take hz)); omega
  have hl5 := R5.out.ck.lt
  refine wp_region_noPanic ?_
  refine wp_region_held_drew (S := fun w' => w'.cell? ⟨W0.heap.size, 2, none⟩ = some (.slice (some ⟨bd, off, none⟩) 508 cap)) (by kernel_rfl) R5.out.data (fun hH => ?_)
  refine wpAnyH_take (i := 0) (oi := _) (v := .pointer (some ⟨W0.heap.size, 0, none⟩)) rfl (by kernel_rfl) (by kernel_rfl) (by kernel_rfl) (fun _ _ _ h => h) (Or.inl ⟨by rfl, fun w' hw' => by go_simp⟩) hH ?_
  try simp only [Act.put, List.getElem_toArray, List.getElem_cons_zero, List.getElem_cons_succ, List.setIfInBounds_toArray, List.set_cons_zero, List.set_cons_succ]
  refine wpAnyH_take (i := 1) (oi := _) (v := .pointer (some ⟨W0.heap.size, 0, none⟩)) rfl (by kernel_rfl) (by kernel_rfl) (by kernel_rfl) (fun _ _ _ h => h) (Or.inl ⟨by rfl, fun w' hw' => by go_simp⟩) hH ?_
  try simp only [Act.put, List.getElem_toArray, List.getElem_cons_zero, List.getElem_cons_succ, List.setIfInBounds_toArray, List.set_cons_zero, List.set_cons_succ]
  refine wpAnyH_take (i := 2) (oi := _) (v := .pointer (some ⟨W0.heap.size, 0, none⟩)) rfl (by kernel_rfl) (by kernel_rfl) (by kernel_rfl) (fun _ _ _ h => h) (Or.inl ⟨by rfl, fun w' hw' => by go_simp⟩) hH ?_
  try simp only [Act.put, List.getElem_toArray, List.getElem_cons_zero, List.getElem_cons_succ, List.setIfInBounds_toArray, List.set_cons_zero, List.set_cons_succ]
  refine wpAnyH_take (i := 3) (oi := _) (v := .int .i64 (x : Int)) rfl (by kernel_rfl) (by kernel_rfl) (by kernel_rfl) (fun _ _ _ h => h) (Or.inl ⟨by rfl, fun w' hw' => by go_simp⟩) hH ?_
  try simp only [Act.put, List.getElem_toArray, List.getElem_cons_zero, List.getElem_cons_succ, List.setIfInBounds_toArray, List.set_cons_zero, List.set_cons_succ]
  refine wpAnyH_take (i := 4) (oi := _) (v := .int .u32 (x : Int)) rfl (by kernel_rfl) (by kernel_rfl) (by kernel_rfl) (fun _ _ _ h => h) (Or.inl ⟨by rfl, fun w' hw' => by have hq : IntKind.u32.wrap (x : Int) = (x : Int) := (by simp [IntKind.wrap, IntKind.bits, IntKind.signed]; omega); go_simp⟩) hH ?_
  try simp only [Act.put, List.getElem_toArray, List.getElem_cons_zero, List.getElem_cons_succ, List.setIfInBounds_toArray, List.set_cons_zero, List.set_cons_succ]
  refine wpAnyH_take (i := 5) (oi := _) (v := .pointer (some ⟨W0.heap.size, 0, none⟩)) rfl (by kernel_rfl) (by kernel_rfl) (by kernel_rfl) (fun _ _ _ h => h) (Or.inl ⟨by rfl, fun w' hw' => by go_simp⟩) hH ?_
  try simp only [Act.put, List.getElem_toArray, List.getElem_cons_zero, List.getElem_cons_succ, List.setIfInBounds_toArray, List.set_cons_zero, List.set_cons_succ]
  refine wpAnyH_take (i := 6) (oi := _) (v := .pointer (some ⟨W0.heap.size, 0, none⟩)) rfl (by kernel_rfl) (by kernel_rfl) (by kernel_rfl) (fun _ _ _ h => h) (Or.inl ⟨by rfl, fun w' hw' => by go_simp⟩) hH ?_
  try simp only [Act.put, List.getElem_toArray, List.getElem_cons_zero, List.getElem_cons_succ, List.setIfInBounds_toArray, List.set_cons_zero, List.set_cons_succ]
  refine wpAnyH_take (i := 7) (oi := _) (v := .pointer (some ⟨W0.heap.size, 2, none⟩)) rfl (by kernel_rfl) (by kernel_rfl) (by kernel_rfl) (fun _ _ _ h => h) (Or.inl ⟨by rfl, fun w' hw' => by go_simp⟩) hH ?_
  try simp only [Act.put, List.getElem_toArray, List.getElem_cons_zero, List.getElem_cons_succ, List.setIfInBounds_toArray, List.set_cons_zero, List.set_cons_succ]
  refine wpAnyH_take (i := 8) (oi := _) (v := .slice (some ⟨bd, off, none⟩) 508 cap) rfl (by kernel_rfl) (by kernel_rfl) (by kernel_rfl) (fun _ _ _ h => h) (Or.inl ⟨by rfl, fun w' hw' => by go_simp⟩) hH ?_
  try simp only [Act.put, List.getElem_toArray, List.getElem_cons_zero, List.getElem_cons_succ, List.setIfInBounds_toArray, List.set_cons_zero, List.set_cons_succ]
  refine wpAnyH_ready (rs := [9]) (by kernel_rfl) (by simp) ?_
  refine AllReadyH.cons (o := _) rfl (fun K hK => ?_) AllReadyH.nil
  go_simp
  refine (implCrc_any _ (zs.take 508) _ (HS.out.below (HB5.out.drew)) (fun z hz => HBd.out z (List.mem_of_mem_take hz))).mono ?_
  rintro e w6 ⟨rfl, rfl⟩
  rw [← hcc]
  refine hK.out _ _ R5.out.data (fun hH => ?_)
  clear hK K
  try simp only [Act.put, List.getElem_toArray, List.getElem_cons_zero, List.getElem_cons_succ, List.setIfInBounds_toArray, List.set_cons_zero, List.set_cons_succ]
  obtain ⟨qq, hqq⟩ : ∃ qq : Bool, qq = ((x : Int) == (c : Int)) := ⟨_, rfl⟩
  have HQQ := hide hqq
  clear hqq
  refine wpAnyH_take (i := 10) (oi := _) (v := .bool qq) rfl (by kernel_rfl) (by kernel_rfl) (by kernel_rfl) (fun _ _ _ h => h) (Or.inl ⟨by rfl, fun w' hw' => by rw [HQQ.out]; go_simp⟩) hH ?_
  try simp only [Act.put, List.getElem_toArray, List.getElem_cons_zero, List.getElem_cons_succ, List.setIfInBounds_toArray, List.set_cons_zero, List.set_cons_succ]
  refine wpAnyH_ready (rs := [11]) (by kernel_rfl) (by simp) ?_
  refine AllReadyH.cons (o := _) rfl (fun K hK => ?_) AllReadyH.nil
  go_simp
  refine (need_any W0.heap.size (W0.heap.size + 1) _ 21 true qq _ (R5.out.ck.below ((Below.refl _ _).drew)) R5.out.lo1 R5.out.lo2).mono ?_
  rintro e w6 ⟨rfl, hc6, ht6⟩
  rw [Bool.true_and] at hc6
  have ht6 : Tch W0.heap.size w5 w6 := (Tch.of_below hl5 ((Below.refl _ _).drew)).trans ht6
  have R6 := hide (R5.out.tch hc6 ht6)
  have B6 := hide (ht6.under HB5.out (Nat.le_refl _) (Nat.le_of_lt hl5))
  have d6 := (ht6.2.1 2 (by omega)).trans R5.out.data
  clear hc6 ht6
  refine hK.out _ _ d6 (fun hH => ?_)
  clear hK K d6
  try simp only [Act.put, List.getElem_toArray, List.getElem_cons_zero, List.getElem_cons_succ, List.setIfInBounds_toArray, List.set_cons_zero, List.set_cons_succ]
  refine wpAnyH_done (by kernel_rfl) (NoPanic.normal ?_) _
  clear hH R5 HB5 hl5
  obtain ⟨ok6, hok6⟩ : ∃ ok6 : Bool, ok6 = qq := ⟨_, rfl⟩
  rw [← hok6] at R6
  have HOk := hide (show ok6 = decide (unle ((zs.drop 508).take 4) = Crc.crc (zs.take 508)) from by rw [hok6, HQQ.out, ← HX.out.1, ← hcc, Bool.eq_iff_iff]; simp only [beq_iff_eq, decide_eq_true_eq]; constructor <;> intro h <;> omega)
  clear hok6 hcc HQQ
  have hl6 := R6.out.ck.lt
  have hs6 : W0.heap.size ≤ w6.heap.size := Nat.le_of_lt hl6
  go_wp2_with fail
  obtain ⟨w7, hw7⟩ : ∃ w7, w7 = w6.alloc (.cells #[.int .u8 0, .int .u8 0, .int .u8 0, .int .u8 0, .int .u8 0, .int .u8 0, .int .u8 0, .int .u8 0] 94) := ⟨_, rfl⟩
  have hs7 : w6.heap.size < w7.heap.size := by rw [hw7]; simp
  have K7 := hide (show Blk w7 w6.heap.size (cellsU (List.replicate 8 0)) 94 ∧ Below w6.heap.size w6 w7 from by rw [hw7]; exact ⟨Blk.new _ _ _, (Below.refl _ _).alloc (Nat.le_refl _) _⟩)
  rw [← hw7]
  clear hw7
  have R7 := hide (R6.out.below K7.out.2)
  have B7 := hide (B6.out.trans (K7.out.2.mono hs6))
  clear R6 B6
  refine wp_region_noPanic ?_
  refine wp_region_held_drew (S := fun _ => True) (by kernel_rfl) trivial (fun hH => ?_)
  refine wpAnyH_take (i := 0) (oi := _) (v := .slice (some ⟨w6.heap.size, 0, none⟩) 8 8) rfl (by kernel_rfl) (by kernel_rfl) (by kernel_rfl) (fun _ _ _ h => h) (Or.inl ⟨by rfl, fun w' hw' => by go_simp⟩) hH ?_
  try simp only [Act.put, List.getElem_toArray, List.getElem_cons_zero, List.getElem_cons_succ, List.setIfInBounds_toArray, List.set_cons_zero, List.set_cons_succ]
  refine wpAnyH_take (i := 1) (oi := _) (v := .pointer (some ⟨W0.heap.size, 0, none⟩)) rfl (by kernel_rfl) (by kernel_rfl) (by kernel_rfl) (fun _ _ _ h => h) (Or.inl ⟨by rfl, fun w' hw' => by go_simp⟩) hH ?_
  try simp only [Act.put, List.getElem_toArray, List.getElem_cons_zero, List.getElem_cons_succ, List.setIfInBounds_toArray, List.set_cons_zero, List.set_cons_succ]
  refine wpAnyH_ready (rs := [2]) (by kernel_rfl) (by simp) ?_
  refine AllReadyH.cons (o := _) rfl (fun K hK => ?_) AllReadyH.nil
  go_simp
  refine (take_any W0 _ W0.heap.size (W0.heap.size + 1) ok6 _ (zs.take 508) 0 8 (R7.out.below ((Below.refl _ _).drew)) (by omega) (by omega) (by rw [List.length_take]; omega)).mono ?_
  rintro e w8 ⟨sv, rfl, hg8, ht8⟩
  have K8 := hide (show Blk w8 w6.heap.size (cellsU (List.replicate 8 0)) 94 from (hg8.block _ (show w6.heap.size < w7.heap.size by omega) (by simp; omega)).trans (show Blk w7.drew _ _ _ from K7.out.1))
  have B8 := hide (show Below W0.heap.size W0 w8 from (B7.out.drew).grown hg8 (show W0.heap.size ≤ w7.heap.size by omega) (fun k e => by cases e; exact Nat.le_refl _))
  clear hg8
  refine hK.out _ _ trivial (fun hH => ?_)
  clear hK K
  try simp only [Act.put, List.getElem_toArray, List.getElem_cons_zero, List.getElem_cons_succ, List.setIfInBounds_toArray, List.set_cons_zero, List.set_cons_succ]
  have hcsz : ((zs.take 508).drop 0).take (((8 : Nat) : Int)).toNat = zs.take 8 := by rw [List.drop_zero, Int.toNat_natCast, List.take_take]; rfl
  have hl8 : (zs.take 8).length = 8 := by rw [List.length_take, HLen.out]; rfl
  have hs8 : w6.heap.size < w8.heap.size := K8.out.lt
  rcases ht8 with ⟨hok, _, _, hrd, hr⟩ | ⟨hno, rfl, hr⟩
  · rw [hcsz] at hrd
    obtain ⟨b9, o9, c9, rfl, hb9, _, _, hc9⟩ := (hr.lift hrd).partsC (by omega)
    rw [hl8]
    have R8 := hide hr
    have HC9 := hide (show ∀ j u, ((zs.take 8).map (Value.int .u8))[j]? = some u → w8.cell? ((⟨b9, o9, none⟩ : Addr).add j) = some u from fun j u hj => by
      have hj8 : j < (zs.take 8).length := by
        rcases Nat.lt_or_ge j (zs.take 8).length with h | h
        · exact h
        · rw [List.getElem?_eq_none (by simpa using h)] at hj; cases hj
      rw [Addr.add_mid, hc9 j hj8]
      rw [List.getElem?_map, List.getElem?_eq_getElem hj8] at hj
      rw [← Option.some.inj hj]
      simp only [List.getD, List.getElem?_eq_getElem hj8, Option.getD_some])
    have HL8 := hide hl8
    have HOk2 := hide hok
    clear hc9 hr hrd hcsz hl8
    refine wpAnyH_ready (rs := [3]) (by kernel_rfl) (by simp) ?_
    refine AllReadyH.cons (o := _) rfl (fun K hK => ?_) AllReadyH.nil
    refine step_copy_splice rfl (.tmp 51) (.tmp 53) 22 22 rfl 5 Tryz.underlying22 (by kernel_rfl) (some ⟨w6.heap.size, 0, none⟩) (some ⟨b9, o9, none⟩) 8 8 8 c9 rfl rfl w6.heap.size 0 (List.replicate 8 (Value.int .u8 0)) 94 (show _ from K8.out) ((zs.take 8).map (Value.int .u8)) (by rw [List.length_map, HL8.out]; rfl) (fun hp => ⟨rfl, _, rfl, HC9.out⟩) (by rw [List.length_map, HL8.out]; simp) (fun u hu => by obtain ⟨z, _, rfl⟩ := List.mem_map.1 hu; rfl) w6.heap.size w8 ((Below.refl w8.heap.size w8).mono (Nat.le_of_lt hs8)) (Nat.le_refl _) ?_
    intro w9 hg9 hb9
    have K9 := hide (show Blk w9 w6.heap.size (cellsU (zs.take 8)) 94 ∧ Blk w9 w.heap.size (cellsU L) 94 from by
      refine ⟨?_, ?_⟩
      · have h9 := hg9.out
        have e9 : splice (List.replicate 8 (Value.int .u8 0)) 0 ((zs.take 8).map (Value.int .u8)) = (zs.take 8).map (Value.int .u8) := by unfold splice; rw [List.take_zero, List.nil_append, List.length_map, HL8.out, List.drop_of_length_le (by simp), List.append_nil]
        rw [e9] at h9
        exact h9
      · exact (K0.out.1.below B8.out (by omega)).below hb9 (by omega))
    have R9 := hide (R8.out.belowOk hb9 (by omega))
    have B9 := hide (B8.out.trans (hb9.mono hs6))
    clear hg9 hb9 K8 R8 HC9
    refine hK.out _ _ trivial (fun hH => ?_)
    clear hK K
    try simp only [Act.put, List.getElem_toArray, List.getElem_cons_zero, List.getElem_cons_succ, List.setIfInBounds_toArray, List.set_cons_zero, List.set_cons_succ]
    refine wpAnyH_done (by kernel_rfl) (NoPanic.normal ?_) _
    clear hH
    have hs9 : w6.heap.size < w9.heap.size := K9.out.1.lt
    go_wp2_with fail
    refine wp_region_noPanic ?_
    refine wp_region_held_drew (S := fun w' => Blk w' w6.heap.size (cellsU (zs.take 8)) 94 ∧ Blk w' w.heap.size (cellsU L) 94) (by kernel_rfl) ⟨K9.out.1, K9.out.2⟩ (fun hH => ?_)
    refine wpAnyH_take (i := 0) (oi := _) (v := .pointer (some ⟨W0.heap.size, 0, none⟩)) rfl (by kernel_rfl) (by kernel_rfl) (by kernel_rfl) (fun _ _ _ h => h) (Or.inl ⟨by rfl, fun w' hw' => by go_simp⟩) hH ?_
    try simp only [Act.put, List.getElem_toArray, List.getElem_cons_zero, List.getElem_cons_succ, List.setIfInBounds_toArray, List.set_cons_zero, List.set_cons_succ]
    refine wpAnyH_take (i := 1) (oi := _) (v := .pointer (some ⟨W0.heap.size, 0, none⟩)) rfl (by kernel_rfl) (by kernel_rfl) (by kernel_rfl) (fun _ _ _ h => h) (Or.inl ⟨by rfl, fun w' hw' => by go_simp⟩) hH ?_
    try simp only [Act.put, List.getElem_toArray, List.getElem_cons_zero, List.getElem_cons_succ, List.setIfInBounds_toArray, List.set_cons_zero, List.set_cons_succ]
    refine wpAnyH_take (i := 2) (oi := _) (v := .pointer (some ⟨W0.heap.size, 0, none⟩)) rfl (by kernel_rfl) (by kernel_rfl) (by kernel_rfl) (fun _ _ _ h => h) (Or.inl ⟨by rfl, fun w' hw' => by go_simp⟩) hH ?_
    try simp only [Act.put, List.getElem_toArray, List.getElem_cons_zero, List.getElem_cons_succ, List.setIfInBounds_toArray, List.set_cons_zero, List.set_cons_succ]
    refine wpAnyH_take (i := 3) (oi := _) (v := .agg (cellsU (zs.take 8))) rfl (by kernel_rfl) (by kernel_rfl) (by kernel_rfl) (fun _ _ _ h => h) (yieldsIf_load_mid (by rfl) 94 _ rfl w6.heap.size 0 rfl ((zs.take 8).map (Value.int .u8)) _ (fun w' h => let_range h.1) Tryz.underlying94 rfl (by rw [List.length_map, HL8.out]; exact infoLet)) hH ?_
    try simp only [Act.put, List.getElem_toArray, List.getElem_cons_zero, List.getElem_cons_succ, List.setIfInBounds_toArray, List.set_cons_zero, List.set_cons_succ]
    refine wpAnyH_take (i := 4) (oi := _) (v := .agg (cellsU L)) rfl (by kernel_rfl) (by kernel_rfl) (by kernel_rfl) (fun _ _ _ h => h) (yieldsIf_load_mid (by rfl) 94 _ rfl w.heap.size 0 rfl (L.map (Value.int .u8)) _ (fun w' h => let_range h.2) Tryz.underlying94 rfl (by rw [List.length_map, HL.out]; exact infoLet)) hH ?_
    try simp only [Act.put, List.getElem_toArray, List.getElem_cons_zero, List.getElem_cons_succ, List.setIfInBounds_toArray, List.set_cons_zero, List.set_cons_succ]
    refine wpAnyH_take (i := 5) (oi := _) (v := .bool (decide (zs.take 8 = L))) rfl (by kernel_rfl) (by kernel_rfl) (by kernel_rfl) (fun _ _ _ h => h) (yieldsIf_eqlU (by rfl) 94 _ _ _ rfl (cellsU (zs.take 8)) (cellsU L) rfl rfl guardLet (decide (zs.take 8 = L)) (fun w => eqLet w _ _ (HL8.out) HL.out)) hH ?_
    try simp only [Act.put, List.getElem_toArray, List.getElem_cons_zero, List.getElem_cons_succ, List.setIfInBounds_toArray, List.set_cons_zero, List.set_cons_succ]
    refine wpAnyH_ready (rs := [6]) (by kernel_rfl) (by simp) ?_
    refine AllReadyH.cons (o := _) rfl (fun K hK => ?_) AllReadyH.nil
    go_simp
    refine (need_any W0.heap.size (W0.heap.size + 1) _ 21 true (decide (zs.take 8 = L)) _ (R9.out.ck.below ((Below.refl _ _).drew)) R9.out.lo1 R9.out.lo2).mono ?_
    rintro e wA ⟨rfl, hcA, htA⟩
    have hl9 := R9.out.ck.lt
    have htA : Tch W0.heap.size w9 wA := (Tch.of_below hl9 ((Below.refl _ _).drew)).trans htA
    have RA := hide (R9.out.tch hcA htA)
    have BA := hide (htA.under B9.out (Nat.le_refl _) (Nat.le_of_lt hl9))
    have sA : Blk wA w6.heap.size (cellsU (zs.take 8)) 94 ∧ Blk wA w.heap.size (cellsU L) 94 := ⟨(htA.1.block _ (by omega) (by simp; omega)).trans K9.out.1, (htA.1.block _ (by omega) (by simp; omega)).trans K9.out.2⟩
    clear hcA htA
    refine hK.out _ _ sA (fun hH => ?_)
    clear hK K sA
    try simp only [Act.put, List.getElem_toArray, List.getElem_cons_zero, List.getElem_cons_succ, List.setIfInBounds_toArray, List.set_cons_zero, List.set_cons_succ]
    refine wpAnyH_done (by kernel_rfl) (NoPanic.normal ?_) _
    clear hH K9 R9
    go_wp2
    go_ret
    refine ⟨_, _, _, _, _, _, _, rfl, RA.out, K0.out.2.trans (BA.out.mono (by omega)), by omega, .inr ⟨HLen.out, rfl, ?_, Nat.le_refl _, fun _ => rfl⟩⟩
    rw [← HOk.out, HOk2.out]
  · have R8 := hide hr
    have HNo := hide hno
    clear hr hno hcsz hl8
    refine wpAnyH_ready (rs := [3]) (by kernel_rfl) (by simp) ?_
    refine AllReadyH.cons (o := _) rfl (fun K hK => ?_) AllReadyH.nil
    rw [if_pos (by rfl)]
    refine Go.Lib.wp_copy_run _ (.tmp 51) (.tmp 53) 22 22 rfl _ _ rfl rfl (run_copy_nil _ _ _ _ _ 5 _ _ _ Tryz.underlying22 (by kernel_rfl)) ?_
    refine hK.out _ _ trivial (fun hH => ?_)
    clear hK K
    try simp only [Act.put, List.getElem_toArray, List.getElem_cons_zero, List.getElem_cons_succ, List.setIfInBounds_toArray, List.set_cons_zero, List.set_cons_succ]
    refine wpAnyH_done (by kernel_rfl) (NoPanic.normal ?_) _
    clear hH
    obtain ⟨w9, hw9⟩ : ∃ w9, w9 = w8 := ⟨_, rfl⟩
    rw [← hw9] at R8 B8 K8 hs8 ⊢
    have K9 := hide (show Blk w9 w6.heap.size (cellsU (List.replicate 8 0)) 94 ∧ Blk w9 w.heap.size (cellsU L) 94 from ⟨K8.out, K0.out.1.below B8.out (by omega)⟩)
    have R9 := R8
    have B9 := B8
    clear hw9 K8 R8 B8
    have hs9 : w6.heap.size < w9.heap.size := K9.out.1.lt
    go_wp2_with fail
    refine wp_region_noPanic ?_
    refine wp_region_held_drew (S := fun w' => Blk w' w6.heap.size (cellsU (List.replicate 8 (0 : Int))) 94 ∧ Blk w' w.heap.size (cellsU L) 94) (by kernel_rfl) ⟨K9.out.1, K9.out.2⟩ (fun hH => ?_)
    refine wpAnyH_take (i := 0) (oi := _) (v := .pointer (some ⟨W0.heap.size, 0, none⟩)) rfl (by kernel_rfl) (by kernel_rfl) (by kernel_rfl) (fun _ _ _ h => h) (Or.inl ⟨by rfl, fun w' hw' => by go_simp⟩) hH ?_
    try simp only [Act.put, List.getElem_toArray, List.getElem_cons_zero, List.getElem_cons_succ, List.setIfInBounds_toArray, List.set_cons_zero, List.set_cons_succ]
    refine wpAnyH_take (i := 1) (oi := _) (v := .pointer (some ⟨W0.heap.size, 0, none⟩)) rfl (by kernel_rfl) (by kernel_rfl) (by kernel_rfl) (fun _ _ _ h => h) (Or.inl ⟨by rfl, fun w' hw' => by go_simp⟩) hH ?_
    try simp only [Act.put, List.getElem_toArray, List.getElem_cons_zero, List.getElem_cons_succ, List.setIfInBounds_toArray, List.set_cons_zero, List.set_cons_succ]
    refine wpAnyH_take (i := 2) (oi := _) (v := .pointer (some ⟨W0.heap.size, 0, none⟩)) rfl (by kernel_rfl) (by kernel_rfl) (by kernel_rfl) (fun _ _ _ h => h) (Or.inl ⟨by rfl, fun w' hw' => by go_simp⟩) hH ?_
    try simp only [Act.put, List.getElem_toArray, List.getElem_cons_zero, List.getElem_cons_succ, List.setIfInBounds_toArray, List.set_cons_zero, List.set_cons_succ]
    refine wpAnyH_take (i := 3) (oi := _) (v := .agg (cellsU (List.replicate 8 (0 : Int)))) rfl (by kernel_rfl) (by kernel_rfl) (by kernel_rfl) (fun _ _ _ h => h) (yieldsIf_load_mid (by rfl) 94 _ rfl w6.heap.size 0 rfl ((List.replicate 8 (0 : Int)).map (Value.int .u8)) _ (fun w' h => let_range h.1) Tryz.underlying94 rfl (by rw [List.length_map, List.length_replicate]; exact infoLet)) hH ?_
    try simp only [Act.put, List.getElem_toArray, List.getElem_cons_zero, List.getElem_cons_succ, List.setIfInBounds_toArray, List.set_cons_zero, List.set_cons_succ]
    refine wpAnyH_take (i := 4) (oi := _) (v := .agg (cellsU L)) rfl (by kernel_rfl) (by kernel_rfl) (by kernel_rfl) (fun _ _ _ h => h) (yieldsIf_load_mid (by rfl) 94 _ rfl w.heap.size 0 rfl (L.map (Value.int .u8)) _ (fun w' h => let_range h.2) Tryz.underlying94 rfl (by rw [List.length_map, HL.out]; exact infoLet)) hH ?_
    try simp only [Act.put, List.getElem_toArray, List.getElem_cons_zero, List.getElem_cons_succ, List.setIfInBounds_toArray, List.set_cons_zero, List.set_cons_succ]
    refine wpAnyH_take (i := 5) (oi := _) (v := .bool (decide (List.replicate 8 (0 : Int) = L))) rfl (by kernel_rfl) (by kernel_rfl) (by kernel_rfl) (fun _ _ _ h => h) (yieldsIf_eqlU (by rfl) 94 _ _ _ rfl (cellsU (List.replicate 8 (0 : Int))) (cellsU L) rfl rfl guardLet (decide (List.replicate 8 (0 : Int) = L)) (fun w => eqLet w _ _ (by simp) HL.out)) hH ?_
    try simp only [Act.put, List.getElem_toArray, List.getElem_cons_zero, List.getElem_cons_succ, List.setIfInBounds_toArray, List.set_cons_zero, List.set_cons_succ]
    refine wpAnyH_ready (rs := [6]) (by kernel_rfl) (by simp) ?_
    refine AllReadyH.cons (o := _) rfl (fun K hK => ?_) AllReadyH.nil
    go_simp
    refine (need_any W0.heap.size (W0.heap.size + 1) _ 21 false (decide (List.replicate 8 (0 : Int) = L)) _ (R9.out.ck.below ((Below.refl _ _).drew)) R9.out.lo1 R9.out.lo2).mono ?_
    rintro e wA ⟨rfl, hcA, htA⟩
    have hl9 := R9.out.ck.lt
    have htA : Tch W0.heap.size w9 wA := (Tch.of_below hl9 ((Below.refl _ _).drew)).trans htA
    have RA := hide (R9.out.tch hcA htA)
    have BA := hide (htA.under B9.out (Nat.le_refl _) (Nat.le_of_lt hl9))
    have sA : Blk wA w6.heap.size (cellsU (List.replicate 8 (0 : Int))) 94 ∧ Blk wA w.heap.size (cellsU L) 94 := ⟨(htA.1.block _ (by omega) (by simp; omega)).trans K9.out.1, (htA.1.block _ (by omega) (by simp; omega)).trans K9.out.2⟩
    clear hcA htA
    refine hK.out _ _ sA (fun hH => ?_)
    clear hK K sA
    try simp only [Act.put, List.getElem_toArray, List.getElem_cons_zero, List.getElem_cons_succ, List.setIfInBounds_toArray, List.set_cons_zero, List.set_cons_succ]
    refine wpAnyH_done (by kernel_rfl) (NoPanic.normal ?_) _
    clear hH K9 R9
    go_wp2
    go_ret
    refine ⟨_, _, _, _, _, _, _, rfl, RA.out, K0.out.2.trans (BA.out.mono (by omega)), by omega, .inr ⟨HLen.out, rfl, ?_, Nat.zero_le _, fun h => (by simp at h)⟩⟩
    have h6 : ok6 = false := by
      cases h : ok6 with
      | false => rfl
      | true => exact absurd ⟨h, by omega, by rw [List.length_take, HLen.out]; decide⟩ HNo.out
    rw [← HOk.out, h6]
    rfl
set_option maxRecDepth 100000 in
set_option maxHeartbeats 4000000 in
theorem newBlock_any (v : Value) (zs L : List Int) (w : World) (hL : L.length = 8) (h : Rd .u8 w v zs) (hbd : ∀ z ∈ zs, 0 ≤ z ∧ z < 256) (hz : zs.length ≤ 140737488355328) :
    Calls Tryz.prog 36 #[v, .agg (cellsU L)] w fun e w' => ∃ w0 b lo ok dv ys pos, e = .returned (.pointer (some ⟨b, 0, none⟩)) ∧ Rdr w0 w' b lo ok dv ys pos ∧ Below w.heap.size w w' ∧ w.heap.size ≤ b ∧ BlkRd zs L ok ys pos := by
  have H := hide h
  have HBd := hide hbd
  have HL := hide hL
  obtain ⟨W0, hW0⟩ : ∃ W0, W0 = w.alloc (.cells (cellsU L) 94) := ⟨_, rfl⟩
  have hs0 : w.heap.size < W0.heap.size := by rw [hW0]; simp
  have K0 := hide (show Blk W0 w.heap.size (cellsU L) 94 ∧ Below w.heap.size w W0 from by rw [hW0]; exact ⟨Blk.new _ _ _, (Below.refl _ _).alloc (Nat.le_refl _) _⟩)
  have HR0 := hide (H.out.below K0.out.2)
  have HW0 := hide hW0
  clear hW0
  obtain ⟨a, cap, rfl⟩ : ∃ a cap, v = .slice a zs.length cap := by obtain ⟨a, cap, h1, _⟩ := h; exact ⟨a, cap, h1⟩
  clear h hbd hL
  have HKr := hide (show W0.rangeAt w.heap.size 0 (L.map (Value.int .u8)) from let_range K0.out.1)
  have HIn := hide (show (Tryz.prog.info? 94).map (·.size) = some (L.map (Value.int .u8)).length from by rw [List.length_map, HL.out]; exact infoLet)
  by_cases hlen : zs.length = 512
  · have hq : ((zs.length : Int) != 512) = false := by simp [hlen]
    have HLen := hide hlen
    clear hlen
    go_enter Tryz.func36, Tryz.ntmps36
    go_upto_region 5 with fail
    rw [← HW0.out]
    go_wp2_with (first | (refine wpList_load_mid rfl 94 _ rfl w.heap.size 0 rfl (L.map (Value.int .u8)) _ HKr.out Tryz.underlying94 rfl HIn.out ?_) | (go_at_call 64; fail))
    refine (sealedRd_any _ zs L _ HL.out HR0.out HBd.out hz HLen.out).mono ?_
    rintro e w' ⟨w0, b, lo, ok, dv, ys, pos, rfl, h1, h2, h3, h4⟩
    have HF := hide (And.intro h1 (And.intro h2 (And.intro h3 h4)))
    clear h1 h2 h3 h4
    go_wp2
    go_ret
    exact ⟨_, _, _, _, _, _, _, rfl, HF.out.1, K0.out.2.trans (HF.out.2.1.mono (by omega)), by have := HF.out.2.2.1; omega, HF.out.2.2.2⟩
  · have hq : ((zs.length : Int) != 512) = true := by simp; omega
    have HLen := hide hlen
    clear hlen
    have HR1 := hide (show Rd .u8 W0 (.slice none 0 0) [] from ⟨none, 0, rfl, by simp, fun h => absurd rfl h, by simp, by simp⟩)
    go_enter Tryz.func36, Tryz.ntmps36
    go_wp2_with (go_at_call 63; fail)
    rw [← HW0.out]
    refine (newReader2_any _ [] _ HR1.out).mono ?_
    rintro e w1 ⟨rfl, r1, f1, b1⟩
    have R1 := hide r1
    have hl1 := r1.ck.lt
    have B1 := hide b1
    clear r1 f1 b1
    go_wp2_with (go_at_call 50; fail)
    refine (need_any W0.heap.size (W0.heap.size + 1) _ 21 true false _ R1.out.ck R1.out.lo1 R1.out.lo2).mono ?_
    rintro e w2 ⟨rfl, hc, ht⟩
    have R2 := hide (R1.out.tch hc ht)
    have B2 := hide (ht.under B1.out (Nat.le_refl _) (Nat.le_of_lt hl1))
    clear hc ht
    go_wp2
    go_ret
    exact ⟨_, _, _, _, _, _, _, rfl, R2.out, K0.out.2.trans (B2.out.mono (by omega)), by omega, .inl ⟨HLen.out, rfl, rfl, rfl⟩⟩
end Go.Proofs.YtkbbnflblkkepaaGreatDoor
