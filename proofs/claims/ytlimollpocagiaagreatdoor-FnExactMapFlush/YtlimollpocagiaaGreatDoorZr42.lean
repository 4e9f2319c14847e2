/- The map's words out of its tree: wordsOf of any length, readMap. -/
import Derived.Test.YtlimollpocagiaaGreatDoorZr16
import Derived.Test.YtlimollpocagiaaGreatDoorZr03
import Derived.Test.YtlimollpocagiaaGreatDoorZr08
namespace Go.Proofs.YtlimollpocagiaaGreatDoor
set_option linter.unusedVariables false
set_option linter.unusedSimpArgs false
open Go.RowKit

set_option maxRecDepth 100000 in
set_option maxHeartbeats 1000000 in
theorem wordsOfG_any (v : Value) (bs : List Int) (n : Nat) (w : World) (h : Rd .u8 w v bs) (hbd : ∀ z ∈ bs, 0 ≤ z ∧ z < 256) (hn : bs.length / 4 = n) (hn2 : n ≤ 65536) :
    Calls Tryz.prog 62 #[v] w fun e w' => ∃ v', e = .returned v' ∧ w'.ownsRow w.heap.size 3 1 v' n ((decTo bs n).map (Value.int .i64)) ∧ Below w.heap.size w w' := by
  obtain ⟨i0, hi, hz0, hz1, hz2⟩ := info_parts infoI64
  have hm := h.len
  unfold maxLen at hm
  have HB := hide hbd
  have HR := hide h
  have HN := hide hn
  have HL := hide (show (bs.length : Int) / 4 = (n : Int) from by omega)
  clear hbd
  obtain ⟨a, cap, rfl, _⟩ := h
  generalize hbl : bs.length = bl at *
  have HBL := hide hbl
  have hbl2 : bl ≤ 262147 := by omega
  clear hbl hn
  go_enter Tryz.func62, Tryz.ntmps62
  go_wp2_with (refine wpList_make_full _ rfl _ _ 29 rfl w.heap.size 3 i0 (.int .i64 0) 1 Tryz.underlying29 hi hz0 hz1 .i64 .i64 n n n (by rw [← HL.out]; rfl) (by rw [← HL.out]; rfl) rfl rfl (by rw [hz2]; omega) (by unfold maxLen; omega) (Nat.le_refl _) ?_; intro w3 hown3 hgr3; rw [made_one _ _ rfl] at hown3)
  have hb3 : Below w.heap.size w w3 := (Below.refl _ _).grown hgr3 (Nat.le_refl _) (fun k e => by cases e)
  go_loopw [12] (fun i wr => ∃ k : Nat, k ≤ n ∧ i = .int .i64 k ∧ Below w.heap.size w wr ∧ wr.ownsRow w.heap.size 3 1 (.slice (some ⟨w.heap.size, 0, none⟩) n n) n ((decTo bs k).map (Value.int .i64) ++ List.replicate (n - k) (.int .i64 0))) (fun i _ => n - (intOf i).toNat)
  case atStart => exact ⟨0, by omega, rfl, hb3, by simpa [decTo] using hown3⟩
  case round =>
    clear hown3 hgr3 hb3
    obtain ⟨k, hk, rfl, hb, hown⟩ := hrel
    by_cases hk8 : k < n
    · have hk4 : 4 * k + 4 ≤ bs.length := by have := HN.out; rw [HBL.out]; omega
      obtain ⟨sa, sc, hsr, hsl⟩ := slice_pieceWL HR.out (4 * k) (by omega)
      have hF := four_of bs k hk4
      obtain ⟨b2, off2, c2, hsv, hb2, _, _, hcell⟩ := hsr.partsC (by rw [List.length_drop]; omega)
      injection hsv with e1 e2 e3
      subst e1
      subst e3
      have cellj : ∀ j, j < 4 → w.cell? ⟨b2, off2 + j, none⟩ = some (.int .u8 (bs.getD (4 * k + j) 0)) := fun j hj => by
        rw [hcell j (by rw [List.length_drop]; omega)]
        simp [List.getD, List.getElem?_drop]
      have hbx : ∀ j, j < 4 → ∃ x : Nat, bs.getD (4 * k + j) 0 = (x : Int) ∧ x < 256 := fun j hj => by
        have hl : 4 * k + j < bs.length := by omega
        have := HB.out _ (List.getElem_mem hl)
        exact ⟨(bs.getD (4 * k + j) 0).toNat, by simp [List.getD, hl]; omega, by simp [List.getD, hl]; omega⟩
      obtain ⟨x0, hx0, l0⟩ := hbx 0 (by omega)
      obtain ⟨x1, hx1, l1⟩ := hbx 1 (by omega)
      obtain ⟨x2, hx2, l2⟩ := hbx 2 (by omega)
      obtain ⟨x3, hx3, l3⟩ := hbx 3 (by omega)
      have HW := hide (show wordAt bs k = ((x0 + 256 * (x1 + 256 * (x2 + 256 * x3)) : Nat) : Int) from by
        unfold wordAt
        rw [hF, unle4, show bs.getD (4 * k) 0 = (x0 : Int) from hx0, hx1, hx2, hx3]
        simp only [Int.toNat_natCast])
      have HRg := hide (show wr.rangeAt b2 off2 [.int .u8 (x0 : Int), .int .u8 (x1 : Int), .int .u8 (x2 : Int), .int .u8 (x3 : Int)] from by
        intro j y hj
        rw [hb.cell (p := ⟨b2, off2 + j, none⟩) hb2]
        match j, hj with
        | 0, hj => rw [cellj 0 (by omega), hx0]; simpa using hj
        | 1, hj => rw [cellj 1 (by omega), hx1]; simpa using hj
        | 2, hj => rw [cellj 2 (by omega), hx2]; simpa using hj
        | 3, hj => rw [cellj 3 (by omega), hx3]; simpa using hj
        | n + 4, hj => simp at hj)
      have harr : ∀ (wx : World), (Instr.arrayAt 161 (.slice (some ⟨b2, off2, none⟩) (bs.length - 4 * k) sc)).run Tryz.prog wx = .ok (.pointer (some ⟨b2, off2, none⟩)) wx := fun wx => run_arrayAt (w := wx) 161 5 4 _ _ _ Tryz.underlying161 (by omega)
      rw [HBL.out] at hsl harr
      have hsl2 : ∀ (wx : World), (Instr.slice 22 (.slice a bl cap) (some (.int .i64 ((k : Int) * 4))) none none).run Tryz.prog wx = .ok (.slice (some ⟨b2, off2, none⟩) (bl - 4 * k) sc) wx := fun wx => by
        have := hsl wx
        rw [show ((4 * k : Nat) : Int) = (k : Int) * 4 by omega] at this
        exact this
      obtain ⟨W3, hW3⟩ : ∃ W3, W3 = (wr.alloc (.cells #[.int .u8 0, .int .u8 0, .int .u8 0, .int .u8 0] 161)).setRow wr.heap.size #[.int .u8 (x0 : Int), .int .u8 (x1 : Int), .int .u8 (x2 : Int), .int .u8 (x3 : Int)] := ⟨_, rfl⟩
      have B3 := hide (show Below wr.heap.size wr W3 from by rw [hW3]; exact below_setRow ((Below.refl _ _).alloc (Nat.le_refl _) _) (Nat.le_refl _) _)
      have K3 := hide (show Blk W3 wr.heap.size #[.int .u8 (x0 : Int), .int .u8 (x1 : Int), .int .u8 (x2 : Int), .int .u8 (x3 : Int)] 161 from by rw [hW3]; exact (Blk.new wr _ 161).row _)
      have KN := hide (Blk.new wr #[.int .u8 0, .int .u8 0, .int .u8 0, .int .u8 0] 161)
      have cb0 := (K3.out.cell 0).trans (show _ = some (.int .u8 (x0 : Int)) from rfl)
      have cb1 := (K3.out.cell 1).trans (show _ = some (.int .u8 (x1 : Int)) from rfl)
      have cb2 := (K3.out.cell 2).trans (show _ = some (.int .u8 (x2 : Int)) from rfl)
      have cb3 := (K3.out.cell 3).trans (show _ = some (.int .u8 (x3 : Int)) from rfl)
      have ho4 := own_below hown B3.out
      have hst := ho4.stored k (.int .i64 ((x0 + 256 * (x1 + 256 * (x2 + 256 * x3)) : Nat) : Int))
      have hfr := ho4.frozenAt k
      obtain ⟨old, hco⟩ : ∃ u, W3.cell? ⟨w.heap.size, k, none⟩ = some u := by
        rw [ho4.cellAt k (by omega)]
        exact ⟨_, List.getElem?_eq_getElem (by simp [decTo_len]; omega)⟩
      have hor := or4W x0 x1 x2 x3 l0 l1 l2 l3
      have HX := hide (show Below w.heap.size w (W3.setCell ⟨w.heap.size, k, none⟩ (.int .i64 ((x0 + 256 * (x1 + 256 * (x2 + 256 * x3)) : Nat) : Int))) ∧ (W3.setCell ⟨w.heap.size, k, none⟩ (.int .i64 ((x0 + 256 * (x1 + 256 * (x2 + 256 * x3)) : Nat) : Int))).ownsRow w.heap.size 3 1 (.slice (some ⟨w.heap.size, 0, none⟩) n n) n ((decTo bs (k + 1)).map (Value.int .i64) ++ List.replicate (n - (k + 1)) (.int .i64 0)) from by
        refine ⟨(hb.trans (B3.out.mono hb.size)).setCell (p := ⟨w.heap.size, k, none⟩) (Nat.le_refl _) _, ?_⟩
        rw [← set_dec bs k n hk8 _ (by rw [HW.out])]
        exact hst.1)
      have HW3 := hide hW3
      clear hW3 hst ho4 hown hsl hsr hcell cellj hbx hF hx0 hx1 hx2 hx3 hb
      go_upto_region 6 with (first
        | (refine wpList_load_mid rfl 161 _ rfl b2 off2 rfl [.int .u8 (x0 : Int), .int .u8 (x1 : Int), .int .u8 (x2 : Int), .int .u8 (x3 : Int)] _ HRg.out Tryz.underlying161 rfl infoA4 ?_)
        | (refine wpList_store_row rfl 161 _ _ rfl wr.heap.size #[.int .u8 (x0 : Int), .int .u8 (x1 : Int), .int .u8 (x2 : Int), .int .u8 (x3 : Int)] rfl rfl 161 #[.int .u8 0, .int .u8 0, .int .u8 0, .int .u8 0] KN.out infoA4 rfl (by simp [Value.oneCell']) ?_)
        | fail)
      rw [← HW3.out]
      go_wp2
      go_roundw
      case rel => exact ⟨k + 1, by omega, by go_num, HX.out.1, HX.out.2⟩
      case measure => simp [intOf]; omega
    · have e8 : k = n := by omega
      subst e8
      go_wp2
      go_ret
      refine ⟨_, rfl, ?_, hb⟩
      rw [Nat.sub_self, List.replicate_zero, List.append_nil] at hown
      exact hown
end Go.Proofs.YtlimollpocagiaaGreatDoor
