/- The program's look at a snapshot: snapFault. -/
import Derived.Test.YtfpfhmnmcjnmaaaDoorSnapA
import Derived.Test.YtfpfhmnmcjnmaaaDoorChkWalks
namespace Go.Proofs.YtfpfhmnmcjnmaaaDoor
set_option linter.unusedVariables false
set_option linter.unusedSimpArgs false
open Go.RowKit

/-- A snapshot as cells: its plane, its name, two numbers, its root. -/
def snapC (pl : Int) (nm : ByteArray) (ge cl s : Int) (ds : List Int) (p q : Int) : Array Value := (([.int .i64 pl, .string nm, .int .i64 ge, .int .i64 cl] : List Value) ++ (rootI s ds p q).map (Value.int .i64)).toArray
theorem snapC_size (pl : Int) (nm : ByteArray) (ge cl s : Int) (ds : List Int) (p q : Int) (hd : ds.length = 12) : (snapC pl nm ge cl s ds p q).size = 19 := by
  have := rootI_len s ds p q hd
  simp [snapC, this]
theorem snapC_one (pl : Int) (nm : ByteArray) (ge cl s : Int) (ds : List Int) (p q : Int) : (snapC pl nm ge cl s ds p q).all (·.oneCell') = true := by
  rw [Array.all_eq_true_iff_forall_mem]
  intro v hv
  simp [snapC] at hv
  rcases hv with rfl | rfl | rfl | rfl | ⟨z, _, rfl⟩ <;> rfl
theorem info19 : (Tryd.prog.info? 67).map (·.size) = some 19 := by kernel_rfl
theorem infoL19 : (Tryd.prog.info? 63).map (·.size) = some 19 := by kernel_rfl
theorem snap_range (pl : Int) (nm : ByteArray) (ge cl s : Int) (ds : List Int) (p q : Int) {w : World} {b : Nat} {t : TypeId} (h : Blk w b (snapC pl nm ge cl s ds p q) t) : w.rangeAt b 4 ((rootI s ds p q).map (Value.int .i64)) := by
  intro j v hv
  rw [h.cell (4 + j)]
  unfold snapC
  rw [List.getElem?_toArray, List.getElem?_append_right (by simp)]
  simpa using hv
def rightS (pl : Int) (nm : ByteArray) (ge cl s : Int) (ds : List Int) (p q : Int) : Bool := wi pl 1 31 && (Chk.chkS nm == 0) && wi ge 1 1099511627776 && wi cl 1 1099511627776 && (rightR s ds p q && tabB s)
theorem Below.iter (w : World) (s : ByteArray) (pos : Nat) : Below w.heap.size w (w.iter s pos) := (Below.refl _ _).alloc (Nat.le_refl _) _

set_option maxRecDepth 100000 in
set_option maxHeartbeats 1000000 in
theorem snapFault_any (pl : Int) (nm : ByteArray) (ge cl s : Int) (ds : List Int) (p q code : Int) (w : World) (hd : ds.length = 12) (hn : nm.size ≤ maxLen) :
    Calls Tryd.prog 81 #[.agg (snapC pl nm ge cl s ds p q), .int .i64 code] w fun e w' => ∃ ev, e = .returned ev ∧ FaultIs w' w.heap.size (rightS pl nm ge cl s ds p q) ev code ∧ Below w.heap.size w w' := by
  have HD := hide hd
  have HN := hide hn
  have HLen := hide (show (cellsI (rootI s ds p q)).size = 15 from by rw [cellsI_size]; exact rootI_len s ds p q HD.out)
  have kB := (Blk.new w (snapC pl nm ge cl s ds p q) 67).alloc (.cells #[.int .i64 code, .nilIface] 80)
  have kC := Ck.fresh (w.alloc (.cells (snapC pl nm ge cl s ds p q) 67)) code 80
  rw [World.size_alloc] at kC
  have hb0 : Below w.heap.size w ((w.alloc (.cells (snapC pl nm ge cl s ds p q) 67)).alloc (.cells #[.int .i64 code, .nilIface] 80)) := ((Below.refl _ _).alloc (Nat.le_refl _) _).alloc (by simp) _
  have H0 := hide (show Kp w ((w.alloc (.cells (snapC pl nm ge cl s ds p q) 67)).alloc (.cells #[.int .i64 code, .nilIface] 80)) (snapC pl nm ge cl s ds p q) 67 code true from ⟨kB, kC, hb0⟩)
  have c0 : ((w.alloc (.cells (snapC pl nm ge cl s ds p q) 67)).alloc (.cells #[.int .i64 code, .nilIface] 80)).cell? ⟨w.heap.size, 0, none⟩ = some (.int .i64 pl) := (kB.cell 0).trans rfl
  have HF := hide (show rightS pl nm ge cl s ds p q = (wi pl 1 31 && (Chk.chkS nm == 0) && wi ge 1 1099511627776 && wi cl 1 1099511627776 && (rightR s ds p q && tabB s)) from rfl)
  clear hd hn kB kC hb0
  go_enter Tryd.func81, Tryd.ntmps81
  go_wp2_with (go_at_call 49; fail)
  refine (within_any (w.heap.size + 1) (w.heap.size + 1 + 1) _ code pl 1 31 _ _ H0.out.ck (by omega) H0.out.lo).mono ?_
  rintro e w1 ⟨rfl, hc1, ht1⟩
  rw [Bool.true_and] at hc1
  have H1 := hide (H0.out.tch hc1 ht1)
  clear hc1 ht1 H0 c0
  have c1 := (H1.out.blk.cell 1).trans (show (snapC pl nm ge cl s ds p q)[1]? = some (.string nm) from rfl)
  go_wp2_with (go_at_call 111; fail)
  refine (Chk.impl_any nm _ HN.out).mono ?_
  rintro e w2 ⟨rfl, hg2⟩
  have b2 : Below w1.heap.size w1 w2 := by
    rcases hg2 with rfl | ⟨pos, rfl⟩
    · exact Below.refl _ _
    · exact Below.iter _ _ _
  have H2 := hide (H1.out.below b2)
  clear hg2 b2 H1 c1
  go_wp2_with (go_at_call 47; fail)
  refine (need_any (w.heap.size + 1) (w.heap.size + 1 + 1) _ code _ (Chk.chkS nm == 0) _ H2.out.ck (by omega) H2.out.lo).mono ?_
  rintro e w3 ⟨rfl, hc3, ht3⟩
  have H3 := hide (H2.out.tch hc3 ht3)
  clear hc3 ht3 H2
  have c3 := (H3.out.blk.cell 2).trans (show (snapC pl nm ge cl s ds p q)[2]? = some (.int .i64 ge) from rfl)
  go_wp2_with (go_at_call 49; fail)
  refine (within_any (w.heap.size + 1) (w.heap.size + 1 + 1) _ code ge 1 1099511627776 _ _ H3.out.ck (by omega) H3.out.lo).mono ?_
  rintro e w4 ⟨rfl, hc4, ht4⟩
  have H4 := hide (H3.out.tch hc4 ht4)
  clear hc4 ht4 H3 c3
  have c4 := (H4.out.blk.cell 3).trans (show (snapC pl nm ge cl s ds p q)[3]? = some (.int .i64 cl) from rfl)
  go_wp2_with (go_at_call 49; fail)
  refine (within_any (w.heap.size + 1) (w.heap.size + 1 + 1) _ code cl 1 1099511627776 _ _ H4.out.ck (by omega) H4.out.lo).mono ?_
  rintro e w5 ⟨rfl, hc5, ht5⟩
  have H5 := hide (H4.out.tch hc5 ht5)
  clear hc5 ht5 H4 c4
  have HR := hide (snap_range pl nm ge cl s ds p q H5.out.blk)
  go_wp2_with (first | (refine wpList_load_mid rfl 36 _ rfl w.heap.size 4 rfl ((rootI s ds p q).map (Value.int .i64)) _ HR.out Tryd.underlying36 rfl (by rw [List.length_map, ← cellsI_size, HLen.out]; exact info15) ?_) | (go_at_call 107; fail))
  refine (tableFault_any s ds p q code _ HD.out).mono ?_
  rintro e w6 ⟨ev6, rfl, hf6, hb6⟩
  have H6 := hide (And.intro (H5.out.below hb6) (And.intro hf6 (And.intro H5.out.lo hb6.size)))
  clear hf6 hb6 HR
  go_wp2_with fail
  refine (inside_fault w w5 w6 _ _ code _ _ _ ev6 H6.out.1 H6.out.2.2.1 H6.out.2.2.2 H6.out.2.1).mono ?_
  rintro e w7 ⟨rfl, hk7⟩
  have H7 := hide hk7
  obtain ⟨ev, c7, hf7⟩ := H7.out.fault
  have HV := hide (show FaultIs w7 w.heap.size (rightS pl nm ge cl s ds p q) ev code from by rw [HF.out]; exact hf7)
  clear hk7 hf7 H6 H5
  go_wp2
  go_ret
  exact ⟨ev, rfl, HV.out, H7.out.old⟩
end Go.Proofs.YtfpfhmnmcjnmaaaDoor
