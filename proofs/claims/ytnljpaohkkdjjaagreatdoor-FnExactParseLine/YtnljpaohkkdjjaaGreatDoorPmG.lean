/- The program's ParseLine. -/
import Derived.Test.YtnljpaohkkdjjaaGreatDoorPmF
namespace Go.Proofs.YtnljpaohkkdjjaaGreatDoor
set_option linter.unusedVariables false
set_option linter.unusedSimpArgs false
open Go.RowKit

/-- What is answered of a line: kind, contents, code. -/
def ansL (x : Except Int (Nat × OpD)) : Nat × OpD × Int := match x with
  | .ok y => (y.1, y.2, 0)
  | .error c => (0, opD0, c)
def opL (a : Nat × OpD × Int) (dv : Value) : Array Value := opC (a.1 : Int) a.2.1.A a.2.1.B 0 0 (mk a.2.1.p) (mk a.2.1.q) dv
theorem opL_no (c : Int) : opL (ansL (.error c)) (.slice none 0 0) = noOp := rfl
theorem opL_size (a : Nat × OpD × Int) (dv : Value) : (opL a dv).size = 8 := rfl
theorem opL_one (a : Nat × OpD × Int) (x : Option Addr) (n c : Nat) : (opL a (.slice x n c)).all (·.oneCell') = true := opC_one _ _ _ _ _ _ _ _ _ _
/-- Told: an operation that is right, or a fault. -/
theorem told_line {x : Except Int (Nat × OpD)} {lo : Nat} {C : Array Value} {ev : Value} {w : World} (h : LineR x lo C ev w) (hg : ErrT w) :
    ∃ a n c, w.ownsRow lo 5 1 (.slice a n c) (ansL x).2.1.d.length (Lib.byteCells (ansL x).2.1.d) ∧
    Calls Tryz.prog 14 #[.agg C, ev] w fun e w' => e = .returned (.tuple #[.agg (opL (ansL x) (.slice a n c)), .int .i64 (ansL x).2.2]) ∧ Below w.heap.size w w' := by
  cases x with
  | ok y =>
    obtain ⟨rfl, dv, rfl, ho⟩ := h
    obtain ⟨a, c, rfl⟩ := own_shapeT ho
    exact ⟨a, _, c, ho, toldO_ok _ w rfl (opC_one _ _ _ _ _ _ _ _ _ _)⟩
  | error c =>
    obtain ⟨rfl, m, hm⟩ := h
    exact ⟨none, 0, 0, World.ownsRow_nil _ _ _ _, toldO_bad noOp lo m ev c w rfl noOp_one hm hg⟩
theorem LineR.shape {x : Except Int (Nat × OpD)} {lo : Nat} {C : Array Value} {ev : Value} {w : World} (h : LineR x lo C ev w) : ev = .nilIface ∨ ∃ t x, ev = .iface t (.pointer (some x)) := by
  cases x with
  | ok y => exact .inl h.1
  | error c => obtain ⟨_, m, hm⟩ := h; exact .inr hm.iface
set_option maxRecDepth 100000 in
set_option maxHeartbeats 2000000 in
theorem implPL_any (s : ByteArray) (w : World) (hs : s.size ≤ 1048576) (hv : ErrV w) (hg : ErrT w) :
    Calls Tryz.prog 5 #[.string s] w fun e w' => ∃ dv, e = .returned (.tuple #[.agg (opL (ansL (parseL s.data.toList)) dv), .int .i64 (ansL (parseL s.data.toList)).2.2]) ∧ w'.ownsRow w.heap.size 5 1 dv (ansL (parseL s.data.toList)).2.1.d.length (Lib.byteCells (ansL (parseL s.data.toList)).2.1.d) ∧ Below w.heap.size w w' := by
  obtain ⟨W, hW⟩ : ∃ W, W = w.alloc (.cells #[.int .i64 0, .int .i64 0, .int .i64 0, .int .i64 0, .int .i64 0, .string ⟨#[]⟩, .string ⟨#[]⟩, .slice none 0 0] 24) := ⟨_, rfl⟩
  have hB : Blk W w.heap.size noOp 24 := by rw [hW]; exact Blk.new w _ _
  have hbl : Below w.heap.size w W := by rw [hW]; exact (Below.refl _ _).alloc (Nat.le_refl _) _
  have HW := hide hW
  have HB := hide hB
  have HBL := hide hbl
  have HV := hide (hv.below hbl)
  have HG := hide (hg.below hbl)
  clear hW hB hbl hv hg
  generalize hx : parseL s.data.toList = x
  have HX := hide hx
  clear hx
  go_enter Tryz.func5, Tryz.ntmps5
  go_upto_region 1 with fail
  rw [← HW.out]
  go_wp2_with (go_at_call 16; fail)
  refine (commands_any W).mono ?_
  rintro e w1 ⟨rfl, c1⟩
  have HC1 := hide c1
  have b1 : Below W.heap.size W w1 := c1.bel
  have HB1 := hide (HB.out.below b1 HB.out.lt)
  have HBL1 := hide (HBL.out.trans (b1.mono HBL.out.size))
  have HV1 := hide (HV.out.below b1)
  have HG1 := hide (HG.out.below b1)
  clear b1 c1 HB HBL HV HG
  go_wp2_with (go_at_call 15; fail)
  refine (readLine_any s W w1 hs HC1.out HV1.out).mono ?_
  rintro e w2 ⟨C, ev, rfl, hL, b2⟩
  rw [HX.out] at hL
  have HB2 := hide (HB1.out.below b2 HB1.out.lt)
  have HBL2 := hide (HBL1.out.trans (b2.mono HBL1.out.size))
  have HG2 := hide (HG1.out.below b2)
  obtain ⟨da, dn, dc, ho, hcall⟩ := told_line hL HG2.out
  have HT := hide hcall
  have HO := hide ho
  have HS := hide (show w.heap.size < w1.heap.size from HB1.out.lt)
  clear b2 HB1 HBL1 HV1 HG1 HC1 hL hcall ho HG2
  go_wp2_with (go_at_call 14; fail)
  refine HT.out.mono ?_
  rintro e w3 ⟨rfl, b3⟩
  have HB3 := hide (HB2.out.below b3 HB2.out.lt)
  have HBL3 := hide (HBL2.out.trans (b3.mono HBL2.out.size))
  have HO3 := hide (own_rowP (own_below HO.out b3) w.heap.size (opL (ansL x) (.slice da dn dc)) HS.out)
  clear b3 HB2 HBL2 HO HT
  generalize hC : opL (ansL x) (.slice da dn dc) = CC at HO3 ⊢
  have HCC := hide hC
  have HC8 := hide (show CC.size = 8 from by rw [← hC]; rfl)
  have HC1 := hide (show CC.all (·.oneCell') = true from by rw [← hC]; exact opL_one _ _ _ _)
  clear hC
  go_wp2_with (refine wpList_store_row rfl 24 _ _ rfl w.heap.size CC rfl rfl 24 _ HB3.out (by rw [HC8.out]; exact infoO8) (by rw [HC8.out]; rfl) HC1.out ?_)
  refine bodyPost_ret (v := .tuple #[.agg CC, .int .i64 (ansL x).2.2]) (results_row_tmp rfl _ _ w.heap.size 24 CC (0, 0) _ _ rfl rfl (HB3.out.row _) Tryz.underlying24 rfl (by rw [HC8.out]; exact infoO8)) rfl ⟨.slice da dn dc, by rw [HCC.out], own_mono HO3.out (Nat.le_of_lt HS.out), below_setRowP HBL3.out (Nat.le_refl _) _⟩
end Go.Proofs.YtnljpaohkkdjjaaGreatDoor
