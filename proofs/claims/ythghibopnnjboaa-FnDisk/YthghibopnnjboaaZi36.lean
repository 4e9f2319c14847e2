/- The program's settle, walked: which cached writes become safe, and what is seen then. -/
import Derived.Test.YthghibopnnjboaaZi35
namespace Go.Proofs.Ythghibopnnjboaa
set_option linter.unusedVariables false
set_option linter.unusedSimpArgs false
open Go.RowKit

theorem cellsC_get : ∀ (C : List (Nat × List Int)), (∀ c ∈ C, c.2.length = 128) → ∀ i j c, C[i]? = some c → j < 129 → (cellsC C)[i * 129 + j]? = (secX c.1 c.2).toList[j]?
  | [], _, i, j, c, h, _ => by simp at h
  | c0 :: C, hl, i, j, c, h, hj => by
    have h0 := hl c0 (by simp)
    have e : cellsC (c0 :: C) = (secX c0.1 c0.2).toList ++ cellsC C := by simp [cellsC, secX]
    have hs : (secX c0.1 c0.2).toList.length = 129 := by simp [secX, h0]
    rw [e]
    cases i with
    | zero =>
      simp at h
      subst h
      rw [Nat.zero_mul, Nat.zero_add, List.getElem?_append_left (by omega)]
    | succ i =>
      rw [List.getElem?_append_right (by omega), hs, show (i + 1) * 129 + j - 129 = i * 129 + j by omega]
      exact cellsC_get C (fun x hx => hl x (by simp [hx])) i j c (by simpa using h) hj
theorem cac_range {W : World} {base g cap m k : Nat} {C : List (Nat × List Int)} (h : W.ownsRow base 95 129 (.slice (some ⟨g, 0, none⟩) m cap) k (cellsC C)) (hl : ∀ c ∈ C, c.2.length = 128) {i : Nat} {c : Nat × List Int} (hc : C[i]? = some c) : W.rangeAt g (i * 129) (secX c.1 c.2).toList := by
  intro j v hj
  have hcl := hl c (List.mem_of_getElem? hc)
  have hjl : j < 129 := by
    have := (List.getElem?_eq_some_iff.1 hj).1
    simpa [secX, hcl] using this
  have hi : i < C.length := (List.getElem?_eq_some_iff.1 hc).1
  have := h.cells (g := g) rfl (i * 129 + j) v ((cellsC_get C hl i j c hc hjl).trans hj)
  rw [Addr.add_mid, Nat.zero_add] at this
  exact this
theorem sec_range {W : World} {base g cap n q : Nat} {Z : List Int} (h : W.ownsRow base 76 128 (.slice (some ⟨g, 0, none⟩) n cap) n (Z.map (Value.int .u8))) (hq : q < n) : W.rangeAt g (q * 128) ((secZ Z q).map (Value.int .u8)) := by
  have hl : Z.length = n * 128 := by have := h.1; simpa using this
  have hr := part_range (w := W) (b := g) (off := 0) (n := n) (zs := Z) hl (fun i hi => by
    rw [Nat.zero_add, h.cellAt i hi, List.getElem?_map, List.getElem?_eq_getElem (by omega)]
    simp [List.getD, show i < Z.length by omega]) q hq
  rw [Nat.zero_add] at hr
  exact hr
def zSWc : Array Value := #[.int .i64 0] ++ zSec
theorem run_allocSW (ρ : Operand → Value) (o : Oper) (ho : o.op = .alloc 95) (w : World) : (execOp ρ o).run Try.prog w = .ok (.value (.pointer (some ⟨w.heap.size, 0, none⟩))) (w.alloc (.cells zSWc 95)) := by
  have h : (Instr.alloc 95 true (.tuple #[])).run Try.prog w = .ok (.pointer (some ⟨w.heap.size, 0, none⟩)) (w.alloc (.cells zSWc 95)) := by kernel_rfl
  simp [execOp, ho, h, Result.andThen]
set_option maxRecDepth 100000 in
set_option maxHeartbeats 8000000 in
theorem settle_all {W : World} {base d : Nat} {vf ve vc : Value} {n : Nat} {F : List Int} {C : List (Nat × List Int)} {fuse : Int} {off : Bool} (h : Dev W base d vf ve vc n F (mkW F (byC C)) C fuse off) (hd : base ≤ d) (hn : 0 < n) (hC : C.length ≤ 100000)  :
    Calls Try.prog 57 #[.pointer (some ⟨d, 0, none⟩), .func (.func 58) #[] #[]] W fun e w' => e = .returned (.tuple #[]) ∧ Dev w' base d vf ve (.slice none 0 0) n (mkW F (byC (keptP (fun _ => true) C C.length))) (mkW F (byC (keptP (fun _ => true) C C.length))) [] fuse off ∧ Below base W w' ∧ KpY TyP W w' := by
  have hn8 := h.n1
  have hbW : base ≤ W.heap.size := by have := h.blk.lt; omega
  obtain ⟨gf, fc, rfl⟩ := place_rowK h.saf hn
  obtain ⟨ge, ec, rfl⟩ := place_rowK h.see hn
  obtain ⟨ca, cc, rfl⟩ := shape_rowK h.cac
  obtain ⟨CL, hCL⟩ : ∃ CL, CL = C.length := ⟨_, rfl⟩
  rw [← hCL] at h hC
  have HV := hide h
  have HCL := hide hCL
  obtain ⟨Z, hZ⟩ : ∃ Z : Array Value, Z = zSWc := ⟨_, rfl⟩
  have HAl := hide (show ∀ (ρ : Operand → Value) (o : Oper) (w : World), o.op = .alloc 95 → (execOp ρ o).run Try.prog w = .ok (.value (.pointer (some ⟨w.heap.size, 0, none⟩))) (w.alloc (.cells Z 95)) from fun ρ o w ho => by rw [hZ]; exact run_allocSW ρ o ho w)
  have HZ := hide (show Z.size = 129 by rw [hZ]; simp [zSWc, zSec])
  have c2 := (h.blk.cell 2).trans (show _ = some (.slice ca CL cc) from rfl)
  clear hZ h hCL
  go_enter Try.func57, Try.ntmps57
  go_wp2
  go_loopw [13] (fun iv wx => ∃ i : Nat, i ≤ CL ∧ iv = .int .i64 (i : Int) ∧ Dev wx base d (.slice (some ⟨gf, 0, none⟩) n fc) (.slice (some ⟨ge, 0, none⟩) n ec) (.slice ca CL cc) n (mkW F (byC (keptP (fun _ => true) C i))) (mkW F (byC C)) C fuse off ∧ Below base W wx ∧ KpY TyP W wx) (fun iv _ => CL - (intOf iv).toNat)
  case atStart => exact ⟨0, by omega, rfl, HV.out, Below.refl _ _, KpY.refl _ _⟩
  case round =>
    clear c2
    obtain ⟨i, hiC, rfl, hv, hb, hy⟩ := hrel
    have HX := hide (And.intro hv (And.intro hb hy))
    clear hv hb hy
    by_cases hlt : i < CL
    · have hI : (i : Int) < (CL : Int) := by omega
      have hi1 : i ≤ 1000000 := by omega
      obtain ⟨c, hcx⟩ : ∃ c, C[i]? = some c := ⟨_, List.getElem?_eq_getElem (by have := HCL.out; omega)⟩
      obtain ⟨at1, P⟩ := c
      have HCX := hide hcx
      have hcl := HV.out.ok (at1, P) (List.mem_of_getElem? hcx)
      have hPl : P.length = 128 := hcl.2
      have hatn : at1 < n := hcl.1
      have hatI : (at1 : Int) < (n : Int) := by omega
      obtain ⟨gc, cc2, hvc⟩ := place_rowK HX.out.1.cac (by have := HCL.out; omega)
      injection hvc with e1 e2 e3
      subst e1
      subst e3
      clear e2
      have HR := hide (cac_range HX.out.1.cac (fun c hc => (HV.out.ok c hc).2) hcx)
      obtain ⟨W3, hW3⟩ : ∃ W3, W3 = (wr.alloc (.cells Z 95)).setRow wr.heap.size (secX at1 P) := ⟨_, rfl⟩
      have B3 := hide (show Below wr.heap.size wr W3 from by rw [hW3]; exact below_setRow ((Below.refl _ _).alloc (Nat.le_refl _) _) (Nat.le_refl _) _)
      have K3 := hide (show Blk W3 wr.heap.size (secX at1 P) 95 from by rw [hW3]; exact (Blk.new wr Z 95).row _)
      have KN := hide (Blk.new wr Z 95)
      have HW3 := hide hW3
      have HPl := hide hPl
      have HSx := hide (secX_size at1 P hPl)
      obtain ⟨gB, hgB⟩ : ∃ gB, gB = wr.heap.size := ⟨_, rfl⟩
      have HgB := hide hgB
      have hlw := HX.out.2.1.size
      have X3 := hide (show Dev W3 base d (.slice (some ⟨gf, 0, none⟩) n fc) (.slice (some ⟨ge, 0, none⟩) n ec) (.slice (some ⟨gc, 0, none⟩) CL cc) n (mkW F (byC (keptP (fun _ => true) C i))) (mkW F (byC C)) C fuse off ∧ Below base W W3 ∧ KpY TyP W W3 ∧ Blk W3 gB (secX at1 P) 95 from ⟨HX.out.1.below B3.out, HX.out.2.1.trans (B3.out.mono (by omega)), HX.out.2.2.below B3.out, by rw [hgB]; exact K3.out⟩)
      clear hW3 hPl hgB hcl
      go_upto_region 3 with (first
        | (refine wpList_load_mid rfl 95 _ rfl gc (i * 129) rfl (secX at1 P).toList _ HR.out Try.underlying95 rfl (by rw [Array.length_toList, HSx.out]; exact infoSWs) ?_)
        | (refine Great.wpList_allocTo rfl (some 5) rfl (.pointer (some ⟨wr.heap.size, 0, none⟩)) (.cells Z 95) (HAl.out _ _ _ rfl) ?_)
        | (refine wpList_store_row rfl 95 _ _ rfl wr.heap.size (secX at1 P) rfl rfl 95 Z KN.out (by rw [HSx.out]; exact infoSWs) (by rw [HZ.out, HSx.out]) (secX_one at1 P) ?_)
        | fail)
      rw [← HW3.out, ← HgB.out]
      clear HR KN HW3 K3 B3
      clear hcx
      go_wp2_with fail
      refine (barr_any (i : Int) W3).mono ?_
      rintro e w5 ⟨rfl, rfl⟩
      obtain ⟨w6, hw6⟩ : ∃ w6, w6 = w5.drew := ⟨_, rfl⟩
      have b6 : Below w5.heap.size w5 w6 := by rw [hw6]; exact (Below.refl _ _).drew
      have H6 := hide (show Dev w6 base d (.slice (some ⟨gf, 0, none⟩) n fc) (.slice (some ⟨ge, 0, none⟩) n ec) (.slice (some ⟨gc, 0, none⟩) CL cc) n (mkW F (byC (keptP (fun _ => true) C i))) (mkW F (byC C)) C fuse off ∧ Below base W w6 ∧ KpY TyP W w6 ∧ Blk w6 gB (secX at1 P) 95 from ⟨X3.out.1.below b6, X3.out.2.1.trans (b6.mono (Nat.le_trans hbW X3.out.2.1.size)), X3.out.2.2.1.below b6, X3.out.2.2.2.below b6 X3.out.2.2.2.lt⟩)
      have S6 := hide (And.intro ((H6.out.1.blk.cell 0).trans (show _ = some (.slice (some ⟨gf, 0, none⟩) n fc) from rfl)) H6.out.2.2.2)
      have HW6 := hide hw6
      clear hw6 b6 X3
      go_upto_region 4 with fail
      refine wp_region_noPanic ?_
      refine wp_region_heldL (fun w' => w'.cell? ⟨d, 0, none⟩ = some (.slice (some ⟨gf, 0, none⟩) n fc) ∧ Blk w' gB (secX at1 P) 95) 9 (by kernel_rfl) ?_
      rw [← HW6.out]
      refine wpAnyL_take (i := 0) (oi := _) (v := .pointer (some ⟨d, 0, none⟩)) rfl (by kernel_rfl) (by kernel_rfl) (by kernel_rfl) (by kernel_rfl) (fun _ _ _ h => h) (Or.inl ⟨by rfl, fun w' hw' => by go_simp⟩) S6.out ?_
      try simp only [Act.put, List.getElem_toArray, List.getElem_cons_zero, List.getElem_cons_succ, List.setIfInBounds_toArray, List.set_cons_zero, List.set_cons_succ]
      refine wpAnyL_take (i := 1) (oi := _) (v := .pointer (some ⟨d, 0, none⟩)) rfl (by kernel_rfl) (by kernel_rfl) (by kernel_rfl) (by kernel_rfl) (fun _ _ _ h => h) (Or.inl ⟨by rfl, fun w' hw' => by go_simp⟩) S6.out ?_
      try simp only [Act.put, List.getElem_toArray, List.getElem_cons_zero, List.getElem_cons_succ, List.setIfInBounds_toArray, List.set_cons_zero, List.set_cons_succ]
      refine wpAnyL_take (i := 2) (oi := _) (v := .pointer (some ⟨d, 0, none⟩)) rfl (by kernel_rfl) (by kernel_rfl) (by kernel_rfl) (by kernel_rfl) (fun _ _ _ h => h) (Or.inl ⟨by rfl, fun w' hw' => by go_simp⟩) S6.out ?_
      try simp only [Act.put, List.getElem_toArray, List.getElem_cons_zero, List.getElem_cons_succ, List.setIfInBounds_toArray, List.set_cons_zero, List.set_cons_succ]
      refine wpAnyL_take (i := 3) (oi := _) (v := .slice (some ⟨gf, 0, none⟩) n fc) rfl (by kernel_rfl) (by kernel_rfl) (by kernel_rfl) (by kernel_rfl) (fun _ _ _ h => h) (Or.inl ⟨by rfl, fun w' hw' => by have hw2 : w'.cell? ⟨d, 0, none⟩ = some (.slice (some ⟨gf, 0, none⟩) n fc) := hw'.1; go_simp⟩) S6.out ?_
      try simp only [Act.put, List.getElem_toArray, List.getElem_cons_zero, List.getElem_cons_succ, List.setIfInBounds_toArray, List.set_cons_zero, List.set_cons_succ]
      refine wpAnyL_take (i := 4) (oi := _) (v := .pointer (some ⟨gB, 0, none⟩)) rfl (by kernel_rfl) (by kernel_rfl) (by kernel_rfl) (by kernel_rfl) (fun _ _ _ h => h) (Or.inl ⟨by rfl, fun w' hw' => by go_simp⟩) S6.out ?_
      try simp only [Act.put, List.getElem_toArray, List.getElem_cons_zero, List.getElem_cons_succ, List.setIfInBounds_toArray, List.set_cons_zero, List.set_cons_succ]
      refine wpAnyL_take (i := 5) (oi := _) (v := .int .i64 (at1 : Int)) rfl (by kernel_rfl) (by kernel_rfl) (by kernel_rfl) (by kernel_rfl) (fun _ _ _ h => h) (Or.inl ⟨by rfl, fun w' hw' => by have hw2 : w'.cell? ⟨gB, 0, none⟩ = some (.int .i64 (at1 : Int)) := secX_at hw'.2; go_simp⟩) S6.out ?_
      try simp only [Act.put, List.getElem_toArray, List.getElem_cons_zero, List.getElem_cons_succ, List.setIfInBounds_toArray, List.set_cons_zero, List.set_cons_succ]
      refine wpAnyL_take (i := 6) (oi := _) (v := .pointer (some ⟨gB, 1, none⟩)) rfl (by kernel_rfl) (by kernel_rfl) (by kernel_rfl) (by kernel_rfl) (fun _ _ _ h => h) (Or.inl ⟨by rfl, fun w' hw' => by go_simp⟩) S6.out ?_
      try simp only [Act.put, List.getElem_toArray, List.getElem_cons_zero, List.getElem_cons_succ, List.setIfInBounds_toArray, List.set_cons_zero, List.set_cons_succ]
      refine wpAnyL_take (i := 7) (oi := _) (v := .agg (P.map (Value.int .u8)).toArray) rfl (by kernel_rfl) (by kernel_rfl) (by kernel_rfl) (by kernel_rfl) (fun _ _ _ h => h) (yieldsIf_load_mid (by rfl) 76 _ rfl gB 1 rfl (P.map (Value.int .u8)) _ (fun w' h => secX_data h.2) Try.underlying76 rfl (by rw [List.length_map, HPl.out]; exact infoSec)) S6.out ?_
      try simp only [Act.put, List.getElem_toArray, List.getElem_cons_zero, List.getElem_cons_succ, List.setIfInBounds_toArray, List.set_cons_zero, List.set_cons_succ]
      refine wpAnyL_take (i := 8) (oi := _) (v := .pointer (some ⟨gf, at1 * 128, none⟩)) rfl (by kernel_rfl) (by kernel_rfl) (by kernel_rfl) (by kernel_rfl) (fun _ _ _ h => h) (Or.inl ⟨by rfl, fun w' hw' => by go_simp⟩) S6.out ?_
      try simp only [Act.put, List.getElem_toArray, List.getElem_cons_zero, List.getElem_cons_succ, List.setIfInBounds_toArray, List.set_cons_zero, List.set_cons_succ]
      refine wpAnyL_one (i := 9) (by kernel_rfl) rfl (fun K hK => ?_)
      rw [if_pos (by rfl)]
      refine wp_store_mid 76 _ _ rfl gf (at1 * 128) (P.map (Value.int .u8)).toArray rfl rfl (there_row H6.out.1.saf (by rw [List.size_toArray, List.length_map, HPl.out]; omega)) (by rw [List.size_toArray, List.length_map, HPl.out]; exact infoSec) (by simp [Value.oneCell']) ?_
      rw [List.toList_toArray]
      refine hK.out _ _ (fun h => absurd rfl h) ?_
      clear hK K
      try simp only [Act.put, List.getElem_toArray, List.getElem_cons_zero, List.getElem_cons_succ, List.setIfInBounds_toArray, List.set_cons_zero, List.set_cons_succ]
      refine wpAnyL_done (by kernel_rfl) (NoPanic.normal ?_) _
      have Z7 := hide (show Dev (w6.setCells gf (at1 * 128) (P.map (Value.int .u8))) base d (.slice (some ⟨gf, 0, none⟩) n fc) (.slice (some ⟨ge, 0, none⟩) n ec) (.slice (some ⟨gc, 0, none⟩) CL cc) n (mkW F (byC (keptP (fun _ => true) C (i + 1)))) (mkW F (byC C)) C fuse off ∧ Below base W (w6.setCells gf (at1 * 128) (P.map (Value.int .u8))) ∧ KpY TyP W (w6.setCells gf (at1 * 128) (P.map (Value.int .u8))) from ⟨by
        rw [keptP_yes HCX.out rfl, byC_snoc, mkW_push]
        exact H6.out.1.setSafe at1 P HPl.out hatn, below_cells (H6.out.1.saf.lt gf rfl).1 _ _ H6.out.2.1, H6.out.2.2.1.ownrow H6.out.1.saf (.inr (.inl rfl)) (cells_grownK _ _ _)⟩)
      clear H6 S6 HW6
      go_wp2
      go_roundw
      case rel => exact ⟨i + 1, by omega, by go_num, Z7.out.1, Z7.out.2.1, Z7.out.2.2⟩
      case measure => simp [intOf]; omega
    · have hi2 : i = CL := by omega
      subst hi2
      have q1 : ¬ ((i : Int) < (i : Int)) := by omega
      obtain ⟨F1, hF1⟩ : ∃ F1, F1 = mkW F (byC (keptP (fun _ => true) C i)) := ⟨_, rfl⟩
      rw [← hF1] at HX
      have HF1 := hide hF1
      clear hF1
      have c2 := (HX.out.1.blk.cell 2).trans (show _ = some (.slice ca i cc) from rfl)
      have Y0 := HX
      clear HX
      obtain ⟨CL, hCL2⟩ : ∃ CL, CL = i := ⟨_, rfl⟩
      rw [← hCL2] at Y0 c2 HCL hC HF1 HV ⊢
      clear hCL2 q1 hiC
      go_wp2
      go_loopw [36] (fun iv wx => ∃ i : Nat, i ≤ CL ∧ iv = .int .i64 (i : Int) ∧ Dev wx base d (.slice (some ⟨gf, 0, none⟩) n fc) (.slice (some ⟨ge, 0, none⟩) n ec) (.slice ca CL cc) n F1 (fixE F1 (mkW F (byC C)) (C.take i)) C fuse off ∧ Below base W wx ∧ KpY TyP W wx) (fun iv _ => CL - (intOf iv).toNat)
      case atStart => exact ⟨0, by omega, rfl, Y0.out.1, Y0.out.2.1, Y0.out.2.2⟩
      case round =>
        clear c2 Y0
        obtain ⟨i, hiC, rfl, hv, hb, hy⟩ := hrel
        obtain ⟨EK, hEK⟩ : ∃ EK, EK = fixE F1 (mkW F (byC C)) (C.take i) := ⟨_, rfl⟩
        rw [← hEK] at hv
        have HEK := hide hEK
        have HX := hide (And.intro hv (And.intro hb hy))
        clear hv hb hy hEK
        by_cases hlt : i < CL
        · have hI : (i : Int) < (CL : Int) := by omega
          obtain ⟨c, hcx⟩ : ∃ c, C[i]? = some c := ⟨_, List.getElem?_eq_getElem (by have := HCL.out; omega)⟩
          obtain ⟨at1, P⟩ := c
          have HCX := hide hcx
          have hcl := HV.out.ok (at1, P) (List.mem_of_getElem? hcx)
          have hPl : P.length = 128 := hcl.2
          have hatn : at1 < n := hcl.1
          have hatI : (at1 : Int) < (n : Int) := by omega
          obtain ⟨gc, cc2, hvc⟩ := place_rowK HX.out.1.cac (by have := HCL.out; omega)
          injection hvc with e1 e2 e3
          subst e1
          subst e3
          clear e2
          have HR := hide (cac_range HX.out.1.cac (fun c hc => (HV.out.ok c hc).2) hcx)
          obtain ⟨W3, hW3⟩ : ∃ W3, W3 = (wr.alloc (.cells Z 95)).setRow wr.heap.size (secX at1 P) := ⟨_, rfl⟩
          have B3 := hide (show Below wr.heap.size wr W3 from by rw [hW3]; exact below_setRow ((Below.refl _ _).alloc (Nat.le_refl _) _) (Nat.le_refl _) _)
          have K3 := hide (show Blk W3 wr.heap.size (secX at1 P) 95 from by rw [hW3]; exact (Blk.new wr Z 95).row _)
          have KN := hide (Blk.new wr Z 95)
          have HW3 := hide hW3
          have HPl := hide hPl
          have HSx := hide (secX_size at1 P hPl)
          obtain ⟨gB, hgB⟩ : ∃ gB, gB = wr.heap.size := ⟨_, rfl⟩
          have HgB := hide hgB
          have hlw := HX.out.2.1.size
          have X3 := hide (show Dev W3 base d (.slice (some ⟨gf, 0, none⟩) n fc) (.slice (some ⟨ge, 0, none⟩) n ec) (.slice (some ⟨gc, 0, none⟩) CL cc) n F1 EK C fuse off ∧ Below base W W3 ∧ KpY TyP W W3 ∧ Blk W3 gB (secX at1 P) 95 from ⟨HX.out.1.below B3.out, HX.out.2.1.trans (B3.out.mono (by omega)), HX.out.2.2.below B3.out, by rw [hgB]; exact K3.out⟩)
          clear hW3 hPl hgB hcl
          go_upto_region 9 with (first
            | (refine wpList_load_mid rfl 95 _ rfl gc (i * 129) rfl (secX at1 P).toList _ HR.out Try.underlying95 rfl (by rw [Array.length_toList, HSx.out]; exact infoSWs) ?_)
            | (refine Great.wpList_allocTo rfl (some 7) rfl (.pointer (some ⟨wr.heap.size, 0, none⟩)) (.cells Z 95) (HAl.out _ _ _ rfl) ?_)
            | (refine wpList_store_row rfl 95 _ _ rfl wr.heap.size (secX at1 P) rfl rfl 95 Z KN.out (by rw [HSx.out]; exact infoSWs) (by rw [HZ.out, HSx.out]) (secX_one at1 P) ?_)
            | fail)
          rw [← HW3.out, ← HgB.out]
          clear HR KN HW3 K3 B3
          clear hcx
          have hls := X3.out.1.lens
          have HsF := hide (secZ_len hls.1 hatn)
          have HsE := hide (secZ_len hls.2 hatn)
          have HlE := hide hls.2
          clear hls
          have S3 := hide (show W3.cell? ⟨d, 0, none⟩ = some (.slice (some ⟨gf, 0, none⟩) n fc) ∧ W3.cell? ⟨d, 1, none⟩ = some (.slice (some ⟨ge, 0, none⟩) n ec) ∧ W3.cell? ⟨gB, 0, none⟩ = some (.int .i64 (at1 : Int)) ∧ W3.rangeAt gf (at1 * 128) ((secZ F1 at1).map (Value.int .u8)) ∧ W3.rangeAt ge (at1 * 128) ((secZ EK at1).map (Value.int .u8)) from ⟨(X3.out.1.blk.cell 0).trans rfl, (X3.out.1.blk.cell 1).trans rfl, secX_at X3.out.2.2.2, sec_range X3.out.1.saf hatn, sec_range X3.out.1.see hatn⟩)
          have SD := hide (show W3.drew.cell? ⟨d, 0, none⟩ = some (.slice (some ⟨gf, 0, none⟩) n fc) ∧ W3.drew.cell? ⟨d, 1, none⟩ = some (.slice (some ⟨ge, 0, none⟩) n ec) ∧ W3.drew.cell? ⟨gB, 0, none⟩ = some (.int .i64 (at1 : Int)) ∧ W3.drew.rangeAt gf (at1 * 128) ((secZ F1 at1).map (Value.int .u8)) ∧ W3.drew.rangeAt ge (at1 * 128) ((secZ EK at1).map (Value.int .u8)) from S3.out)
          refine wp_region_noPanic ?_
          refine wp_region_held_drew (S := fun w' => w'.cell? ⟨d, 0, none⟩ = some (.slice (some ⟨gf, 0, none⟩) n fc) ∧ w'.cell? ⟨d, 1, none⟩ = some (.slice (some ⟨ge, 0, none⟩) n ec) ∧ w'.cell? ⟨gB, 0, none⟩ = some (.int .i64 (at1 : Int)) ∧ w'.rangeAt gf (at1 * 128) ((secZ F1 at1).map (Value.int .u8)) ∧ w'.rangeAt ge (at1 * 128) ((secZ EK at1).map (Value.int .u8))) (by kernel_rfl) SD.out (fun hH => ?_)
          refine wpAnyH_take (i := 0) (oi := _) (v := .pointer (some ⟨d, 0, none⟩)) rfl (by kernel_rfl) (by kernel_rfl) (by kernel_rfl) (fun _ _ _ h => h) (Or.inl ⟨by rfl, fun w' hw' => by go_simp⟩) hH ?_
          try simp only [Act.put, List.getElem_toArray, List.getElem_cons_zero, List.getElem_cons_succ, List.setIfInBounds_toArray, List.set_cons_zero, List.set_cons_succ]
          refine wpAnyH_take (i := 1) (oi := _) (v := .pointer (some ⟨d, 0, none⟩)) rfl (by kernel_rfl) (by kernel_rfl) (by kernel_rfl) (fun _ _ _ h => h) (Or.inl ⟨by rfl, fun w' hw' => by go_simp⟩) hH ?_
          try simp only [Act.put, List.getElem_toArray, List.getElem_cons_zero, List.getElem_cons_succ, List.setIfInBounds_toArray, List.set_cons_zero, List.set_cons_succ]
          refine wpAnyH_take (i := 2) (oi := _) (v := .pointer (some ⟨d, 1, none⟩)) rfl (by kernel_rfl) (by kernel_rfl) (by kernel_rfl) (fun _ _ _ h => h) (Or.inl ⟨by rfl, fun w' hw' => by go_simp⟩) hH ?_
          try simp only [Act.put, List.getElem_toArray, List.getElem_cons_zero, List.getElem_cons_succ, List.setIfInBounds_toArray, List.set_cons_zero, List.set_cons_succ]
          refine wpAnyH_take (i := 3) (oi := _) (v := .slice (some ⟨ge, 0, none⟩) n ec) rfl (by kernel_rfl) (by kernel_rfl) (by kernel_rfl) (fun _ _ _ h => h) (Or.inl ⟨by rfl, fun w' hw' => by have hw2 : w'.cell? ⟨d, 1, none⟩ = some (.slice (some ⟨ge, 0, none⟩) n ec) := hw'.2.1; go_simp⟩) hH ?_
          try simp only [Act.put, List.getElem_toArray, List.getElem_cons_zero, List.getElem_cons_succ, List.setIfInBounds_toArray, List.set_cons_zero, List.set_cons_succ]
          refine wpAnyH_take (i := 4) (oi := _) (v := .pointer (some ⟨gB, 0, none⟩)) rfl (by kernel_rfl) (by kernel_rfl) (by kernel_rfl) (fun _ _ _ h => h) (Or.inl ⟨by rfl, fun w' hw' => by go_simp⟩) hH ?_
          try simp only [Act.put, List.getElem_toArray, List.getElem_cons_zero, List.getElem_cons_succ, List.setIfInBounds_toArray, List.set_cons_zero, List.set_cons_succ]
          refine wpAnyH_take (i := 5) (oi := _) (v := .int .i64 (at1 : Int)) rfl (by kernel_rfl) (by kernel_rfl) (by kernel_rfl) (fun _ _ _ h => h) (Or.inl ⟨by rfl, fun w' hw' => by have hw2 : w'.cell? ⟨gB, 0, none⟩ = some (.int .i64 (at1 : Int)) := hw'.2.2.1; go_simp⟩) hH ?_
          try simp only [Act.put, List.getElem_toArray, List.getElem_cons_zero, List.getElem_cons_succ, List.setIfInBounds_toArray, List.set_cons_zero, List.set_cons_succ]
          refine wpAnyH_take (i := 6) (oi := _) (v := .pointer (some ⟨ge, at1 * 128, none⟩)) rfl (by kernel_rfl) (by kernel_rfl) (by kernel_rfl) (fun _ _ _ h => h) (Or.inl ⟨by rfl, fun w' hw' => by go_simp⟩) hH ?_
          try simp only [Act.put, List.getElem_toArray, List.getElem_cons_zero, List.getElem_cons_succ, List.setIfInBounds_toArray, List.set_cons_zero, List.set_cons_succ]
          refine wpAnyH_take (i := 7) (oi := _) (v := .agg (cellsK (secZ EK at1))) rfl (by kernel_rfl) (by kernel_rfl) (by kernel_rfl) (fun _ _ _ h => h) (yieldsIf_load_mid (by rfl) 76 _ rfl ge (at1 * 128) rfl ((secZ EK at1).map (Value.int .u8)) _ (fun w' h => h.2.2.2.2) Try.underlying76 rfl (by rw [List.length_map, HsE.out]; exact infoSec)) hH ?_
          try simp only [Act.put, List.getElem_toArray, List.getElem_cons_zero, List.getElem_cons_succ, List.setIfInBounds_toArray, List.set_cons_zero, List.set_cons_succ]
          refine wpAnyH_take (i := 8) (oi := _) (v := .pointer (some ⟨d, 0, none⟩)) rfl (by kernel_rfl) (by kernel_rfl) (by kernel_rfl) (fun _ _ _ h => h) (Or.inl ⟨by rfl, fun w' hw' => by go_simp⟩) hH ?_
          try simp only [Act.put, List.getElem_toArray, List.getElem_cons_zero, List.getElem_cons_succ, List.setIfInBounds_toArray, List.set_cons_zero, List.set_cons_succ]
          refine wpAnyH_take (i := 9) (oi := _) (v := .pointer (some ⟨d, 0, none⟩)) rfl (by kernel_rfl) (by kernel_rfl) (by kernel_rfl) (fun _ _ _ h => h) (Or.inl ⟨by rfl, fun w' hw' => by go_simp⟩) hH ?_
          try simp only [Act.put, List.getElem_toArray, List.getElem_cons_zero, List.getElem_cons_succ, List.setIfInBounds_toArray, List.set_cons_zero, List.set_cons_succ]
          refine wpAnyH_take (i := 10) (oi := _) (v := .pointer (some ⟨d, 0, none⟩)) rfl (by kernel_rfl) (by kernel_rfl) (by kernel_rfl) (fun _ _ _ h => h) (Or.inl ⟨by rfl, fun w' hw' => by go_simp⟩) hH ?_
          try simp only [Act.put, List.getElem_toArray, List.getElem_cons_zero, List.getElem_cons_succ, List.setIfInBounds_toArray, List.set_cons_zero, List.set_cons_succ]
          refine wpAnyH_take (i := 11) (oi := _) (v := .slice (some ⟨gf, 0, none⟩) n fc) rfl (by kernel_rfl) (by kernel_rfl) (by kernel_rfl) (fun _ _ _ h => h) (Or.inl ⟨by rfl, fun w' hw' => by have hw2 : w'.cell? ⟨d, 0, none⟩ = some (.slice (some ⟨gf, 0, none⟩) n fc) := hw'.1; go_simp⟩) hH ?_
          try simp only [Act.put, List.getElem_toArray, List.getElem_cons_zero, List.getElem_cons_succ, List.setIfInBounds_toArray, List.set_cons_zero, List.set_cons_succ]
          refine wpAnyH_take (i := 12) (oi := _) (v := .pointer (some ⟨gB, 0, none⟩)) rfl (by kernel_rfl) (by kernel_rfl) (by kernel_rfl) (fun _ _ _ h => h) (Or.inl ⟨by rfl, fun w' hw' => by go_simp⟩) hH ?_
          try simp only [Act.put, List.getElem_toArray, List.getElem_cons_zero, List.getElem_cons_succ, List.setIfInBounds_toArray, List.set_cons_zero, List.set_cons_succ]
          refine wpAnyH_take (i := 13) (oi := _) (v := .int .i64 (at1 : Int)) rfl (by kernel_rfl) (by kernel_rfl) (by kernel_rfl) (fun _ _ _ h => h) (Or.inl ⟨by rfl, fun w' hw' => by have hw2 : w'.cell? ⟨gB, 0, none⟩ = some (.int .i64 (at1 : Int)) := hw'.2.2.1; go_simp⟩) hH ?_
          try simp only [Act.put, List.getElem_toArray, List.getElem_cons_zero, List.getElem_cons_succ, List.setIfInBounds_toArray, List.set_cons_zero, List.set_cons_succ]
          refine wpAnyH_take (i := 14) (oi := _) (v := .pointer (some ⟨gf, at1 * 128, none⟩)) rfl (by kernel_rfl) (by kernel_rfl) (by kernel_rfl) (fun _ _ _ h => h) (Or.inl ⟨by rfl, fun w' hw' => by go_simp⟩) hH ?_
          try simp only [Act.put, List.getElem_toArray, List.getElem_cons_zero, List.getElem_cons_succ, List.setIfInBounds_toArray, List.set_cons_zero, List.set_cons_succ]
          refine wpAnyH_take (i := 15) (oi := _) (v := .agg (cellsK (secZ F1 at1))) rfl (by kernel_rfl) (by kernel_rfl) (by kernel_rfl) (fun _ _ _ h => h) (yieldsIf_load_mid (by rfl) 76 _ rfl gf (at1 * 128) rfl ((secZ F1 at1).map (Value.int .u8)) _ (fun w' h => h.2.2.2.1) Try.underlying76 rfl (by rw [List.length_map, HsF.out]; exact infoSec)) hH ?_
          try simp only [Act.put, List.getElem_toArray, List.getElem_cons_zero, List.getElem_cons_succ, List.setIfInBounds_toArray, List.set_cons_zero, List.set_cons_succ]
          refine wpAnyH_take (i := 16) (oi := _) (v := .bool (!decide (secZ EK at1 = secZ F1 at1))) rfl (by kernel_rfl) (by kernel_rfl) (by kernel_rfl) (fun _ _ _ h => h) (yieldsIf_neqK (by rfl) 76 _ _ _ rfl (cellsK (secZ EK at1)) (cellsK (secZ F1 at1)) rfl rfl guardSec _ (fun w => eqSec w _ _ HsE.out HsF.out)) hH ?_
          try simp only [Act.put, List.getElem_toArray, List.getElem_cons_zero, List.getElem_cons_succ, List.setIfInBounds_toArray, List.set_cons_zero, List.set_cons_succ]
          refine wpAnyH_done (by kernel_rfl) (NoPanic.normal ?_) _
          by_cases hsame : secZ EK at1 = secZ F1 at1
          · have qs : (!decide (secZ EK at1 = secZ F1 at1)) = false := by simp [hsame]
            rw [qs]
            have Z7 := hide (show Dev W3.drew base d (.slice (some ⟨gf, 0, none⟩) n fc) (.slice (some ⟨ge, 0, none⟩) n ec) (.slice (some ⟨gc, 0, none⟩) CL cc) n F1 (fixE F1 (mkW F (byC C)) (C.take (i + 1))) C fuse off ∧ Below base W W3.drew ∧ KpY TyP W W3.drew from ⟨by
              rw [fix_snoc _ _ _ _ _ HCX.out, ← HEK.out]
              show Dev W3.drew base d _ _ _ n F1 (splice EK (at1 * 128) (secZ F1 at1)) C fuse off
              rw [splice_same HlE.out hatn hsame]
              exact X3.out.1.below (Below.refl _ _).drew, X3.out.2.1.drew, X3.out.2.2.1.below (Below.refl _ _).drew⟩)
            clear qs hH X3 S3 SD
            go_wp2
            go_roundw
            case rel => exact ⟨i + 1, by omega, by go_num, Z7.out.1, Z7.out.2.1, Z7.out.2.2⟩
            case measure => simp [intOf]; omega
          · have qs : (!decide (secZ EK at1 = secZ F1 at1)) = true := by simp [hsame]
            rw [qs]
            clear qs hH
            obtain ⟨w5, hw5⟩ : ∃ w5, w5 = W3.drew := ⟨_, rfl⟩
            obtain ⟨w6, hw6⟩ : ∃ w6, w6 = w5.drew := ⟨_, rfl⟩
            have b6 : Below W3.heap.size W3 w6 := by rw [hw6, hw5]; exact ((Below.refl _ _).drew).drew
            have H6 := hide (show Dev w6 base d (.slice (some ⟨gf, 0, none⟩) n fc) (.slice (some ⟨ge, 0, none⟩) n ec) (.slice (some ⟨gc, 0, none⟩) CL cc) n F1 EK C fuse off ∧ Below base W w6 ∧ KpY TyP W w6 ∧ Blk w6 gB (secX at1 P) 95 from ⟨X3.out.1.below b6, X3.out.2.1.trans (b6.mono (Nat.le_trans hbW X3.out.2.1.size)), X3.out.2.2.1.below b6, X3.out.2.2.2.below b6 X3.out.2.2.2.lt⟩)
            have S0 := hide (show w6.cell? ⟨d, 0, none⟩ = some (.slice (some ⟨gf, 0, none⟩) n fc) ∧ w6.cell? ⟨d, 1, none⟩ = some (.slice (some ⟨ge, 0, none⟩) n ec) ∧ w6.cell? ⟨gB, 0, none⟩ = some (.int .i64 (at1 : Int)) ∧ w6.rangeAt gf (at1 * 128) ((secZ F1 at1).map (Value.int .u8)) ∧ w6.rangeAt ge (at1 * 128) ((secZ EK at1).map (Value.int .u8)) from ⟨(H6.out.1.blk.cell 0).trans rfl, (H6.out.1.blk.cell 1).trans rfl, secX_at H6.out.2.2.2, sec_range H6.out.1.saf hatn, sec_range H6.out.1.see hatn⟩)
            have HW5 := hide hw5
            have HW6 := hide hw6
            clear hw5 hw6 b6 X3 S3 SD
            go_upto_region 10 with fail
            rw [← HW5.out]
            refine wp_region_noPanic ?_
            refine wp_region_heldL (fun w' => w'.cell? ⟨d, 0, none⟩ = some (.slice (some ⟨gf, 0, none⟩) n fc) ∧ w'.cell? ⟨d, 1, none⟩ = some (.slice (some ⟨ge, 0, none⟩) n ec) ∧ w'.cell? ⟨gB, 0, none⟩ = some (.int .i64 (at1 : Int)) ∧ w'.rangeAt gf (at1 * 128) ((secZ F1 at1).map (Value.int .u8)) ∧ w'.rangeAt ge (at1 * 128) ((secZ EK at1).map (Value.int .u8))) 15 (by kernel_rfl) ?_
            rw [← HW6.out]
            refine wpAnyL_take (i := 0) (oi := _) (v := .pointer (some ⟨d, 0, none⟩)) rfl (by kernel_rfl) (by kernel_rfl) (by kernel_rfl) (by kernel_rfl) (fun _ _ _ h => h) (Or.inl ⟨by rfl, fun w' hw' => by go_simp⟩) S0.out ?_
            try simp only [Act.put, List.getElem_toArray, List.getElem_cons_zero, List.getElem_cons_succ, List.setIfInBounds_toArray, List.set_cons_zero, List.set_cons_succ]
            refine wpAnyL_take (i := 1) (oi := _) (v := .pointer (some ⟨d, 0, none⟩)) rfl (by kernel_rfl) (by kernel_rfl) (by kernel_rfl) (by kernel_rfl) (fun _ _ _ h => h) (Or.inl ⟨by rfl, fun w' hw' => by go_simp⟩) S0.out ?_
            try simp only [Act.put, List.getElem_toArray, List.getElem_cons_zero, List.getElem_cons_succ, List.setIfInBounds_toArray, List.set_cons_zero, List.set_cons_succ]
            refine wpAnyL_take (i := 2) (oi := _) (v := .pointer (some ⟨d, 1, none⟩)) rfl (by kernel_rfl) (by kernel_rfl) (by kernel_rfl) (by kernel_rfl) (fun _ _ _ h => h) (Or.inl ⟨by rfl, fun w' hw' => by go_simp⟩) S0.out ?_
            try simp only [Act.put, List.getElem_toArray, List.getElem_cons_zero, List.getElem_cons_succ, List.setIfInBounds_toArray, List.set_cons_zero, List.set_cons_succ]
            refine wpAnyL_take (i := 3) (oi := _) (v := .slice (some ⟨ge, 0, none⟩) n ec) rfl (by kernel_rfl) (by kernel_rfl) (by kernel_rfl) (by kernel_rfl) (fun _ _ _ h => h) (Or.inl ⟨by rfl, fun w' hw' => by have hw2 : w'.cell? ⟨d, 1, none⟩ = some (.slice (some ⟨ge, 0, none⟩) n ec) := hw'.2.1; go_simp⟩) S0.out ?_
            try simp only [Act.put, List.getElem_toArray, List.getElem_cons_zero, List.getElem_cons_succ, List.setIfInBounds_toArray, List.set_cons_zero, List.set_cons_succ]
            refine wpAnyL_take (i := 4) (oi := _) (v := .pointer (some ⟨gB, 0, none⟩)) rfl (by kernel_rfl) (by kernel_rfl) (by kernel_rfl) (by kernel_rfl) (fun _ _ _ h => h) (Or.inl ⟨by rfl, fun w' hw' => by go_simp⟩) S0.out ?_
            try simp only [Act.put, List.getElem_toArray, List.getElem_cons_zero, List.getElem_cons_succ, List.setIfInBounds_toArray, List.set_cons_zero, List.set_cons_succ]
            refine wpAnyL_take (i := 5) (oi := _) (v := .int .i64 (at1 : Int)) rfl (by kernel_rfl) (by kernel_rfl) (by kernel_rfl) (by kernel_rfl) (fun _ _ _ h => h) (Or.inl ⟨by rfl, fun w' hw' => by have hw2 : w'.cell? ⟨gB, 0, none⟩ = some (.int .i64 (at1 : Int)) := hw'.2.2.1; go_simp⟩) S0.out ?_
            try simp only [Act.put, List.getElem_toArray, List.getElem_cons_zero, List.getElem_cons_succ, List.setIfInBounds_toArray, List.set_cons_zero, List.set_cons_succ]
            refine wpAnyL_take (i := 6) (oi := _) (v := .pointer (some ⟨d, 0, none⟩)) rfl (by kernel_rfl) (by kernel_rfl) (by kernel_rfl) (by kernel_rfl) (fun _ _ _ h => h) (Or.inl ⟨by rfl, fun w' hw' => by go_simp⟩) S0.out ?_
            try simp only [Act.put, List.getElem_toArray, List.getElem_cons_zero, List.getElem_cons_succ, List.setIfInBounds_toArray, List.set_cons_zero, List.set_cons_succ]
            refine wpAnyL_take (i := 7) (oi := _) (v := .pointer (some ⟨d, 0, none⟩)) rfl (by kernel_rfl) (by kernel_rfl) (by kernel_rfl) (by kernel_rfl) (fun _ _ _ h => h) (Or.inl ⟨by rfl, fun w' hw' => by go_simp⟩) S0.out ?_
            try simp only [Act.put, List.getElem_toArray, List.getElem_cons_zero, List.getElem_cons_succ, List.setIfInBounds_toArray, List.set_cons_zero, List.set_cons_succ]
            refine wpAnyL_take (i := 8) (oi := _) (v := .pointer (some ⟨d, 0, none⟩)) rfl (by kernel_rfl) (by kernel_rfl) (by kernel_rfl) (by kernel_rfl) (fun _ _ _ h => h) (Or.inl ⟨by rfl, fun w' hw' => by go_simp⟩) S0.out ?_
            try simp only [Act.put, List.getElem_toArray, List.getElem_cons_zero, List.getElem_cons_succ, List.setIfInBounds_toArray, List.set_cons_zero, List.set_cons_succ]
            refine wpAnyL_take (i := 9) (oi := _) (v := .slice (some ⟨gf, 0, none⟩) n fc) rfl (by kernel_rfl) (by kernel_rfl) (by kernel_rfl) (by kernel_rfl) (fun _ _ _ h => h) (Or.inl ⟨by rfl, fun w' hw' => by have hw2 : w'.cell? ⟨d, 0, none⟩ = some (.slice (some ⟨gf, 0, none⟩) n fc) := hw'.1; go_simp⟩) S0.out ?_
            try simp only [Act.put, List.getElem_toArray, List.getElem_cons_zero, List.getElem_cons_succ, List.setIfInBounds_toArray, List.set_cons_zero, List.set_cons_succ]
            refine wpAnyL_take (i := 10) (oi := _) (v := .pointer (some ⟨gB, 0, none⟩)) rfl (by kernel_rfl) (by kernel_rfl) (by kernel_rfl) (by kernel_rfl) (fun _ _ _ h => h) (Or.inl ⟨by rfl, fun w' hw' => by go_simp⟩) S0.out ?_
            try simp only [Act.put, List.getElem_toArray, List.getElem_cons_zero, List.getElem_cons_succ, List.setIfInBounds_toArray, List.set_cons_zero, List.set_cons_succ]
            refine wpAnyL_take (i := 11) (oi := _) (v := .int .i64 (at1 : Int)) rfl (by kernel_rfl) (by kernel_rfl) (by kernel_rfl) (by kernel_rfl) (fun _ _ _ h => h) (Or.inl ⟨by rfl, fun w' hw' => by have hw2 : w'.cell? ⟨gB, 0, none⟩ = some (.int .i64 (at1 : Int)) := hw'.2.2.1; go_simp⟩) S0.out ?_
            try simp only [Act.put, List.getElem_toArray, List.getElem_cons_zero, List.getElem_cons_succ, List.setIfInBounds_toArray, List.set_cons_zero, List.set_cons_succ]
            refine wpAnyL_take (i := 12) (oi := _) (v := .pointer (some ⟨gf, at1 * 128, none⟩)) rfl (by kernel_rfl) (by kernel_rfl) (by kernel_rfl) (by kernel_rfl) (fun _ _ _ h => h) (Or.inl ⟨by rfl, fun w' hw' => by go_simp⟩) S0.out ?_
            try simp only [Act.put, List.getElem_toArray, List.getElem_cons_zero, List.getElem_cons_succ, List.setIfInBounds_toArray, List.set_cons_zero, List.set_cons_succ]
            refine wpAnyL_take (i := 13) (oi := _) (v := .agg (cellsK (secZ F1 at1))) rfl (by kernel_rfl) (by kernel_rfl) (by kernel_rfl) (by kernel_rfl) (fun _ _ _ h => h) (yieldsIf_load_mid (by rfl) 76 _ rfl gf (at1 * 128) rfl ((secZ F1 at1).map (Value.int .u8)) _ (fun w' h => h.2.2.2.1) Try.underlying76 rfl (by rw [List.length_map, HsF.out]; exact infoSec)) S0.out ?_
            try simp only [Act.put, List.getElem_toArray, List.getElem_cons_zero, List.getElem_cons_succ, List.setIfInBounds_toArray, List.set_cons_zero, List.set_cons_succ]
            refine wpAnyL_take (i := 14) (oi := _) (v := .pointer (some ⟨ge, at1 * 128, none⟩)) rfl (by kernel_rfl) (by kernel_rfl) (by kernel_rfl) (by kernel_rfl) (fun _ _ _ h => h) (Or.inl ⟨by rfl, fun w' hw' => by go_simp⟩) S0.out ?_
            try simp only [Act.put, List.getElem_toArray, List.getElem_cons_zero, List.getElem_cons_succ, List.setIfInBounds_toArray, List.set_cons_zero, List.set_cons_succ]
            refine wpAnyL_one (i := 15) (by kernel_rfl) rfl (fun K hK => ?_)
            rw [if_pos (by rfl)]
            refine wp_store_mid 76 _ _ rfl ge (at1 * 128) (cellsK (secZ F1 at1)) rfl rfl (there_row H6.out.1.see (by rw [cellsK, List.size_toArray, List.length_map, HsF.out]; omega)) (by rw [cellsK, List.size_toArray, List.length_map, HsF.out]; exact infoSec) (by simp [cellsK, Value.oneCell']) ?_
            rw [cellsK, List.toList_toArray]
            refine hK.out _ _ (fun h => absurd rfl h) ?_
            clear hK K
            try simp only [Act.put, List.getElem_toArray, List.getElem_cons_zero, List.getElem_cons_succ, List.setIfInBounds_toArray, List.set_cons_zero, List.set_cons_succ]
            refine wpAnyL_done (by kernel_rfl) (NoPanic.normal ?_) _
            have Z7 := hide (show Dev (w6.setCells ge (at1 * 128) ((secZ F1 at1).map (Value.int .u8))) base d (.slice (some ⟨gf, 0, none⟩) n fc) (.slice (some ⟨ge, 0, none⟩) n ec) (.slice (some ⟨gc, 0, none⟩) CL cc) n F1 (fixE F1 (mkW F (byC C)) (C.take (i + 1))) C fuse off ∧ Below base W (w6.setCells ge (at1 * 128) ((secZ F1 at1).map (Value.int .u8))) ∧ KpY TyP W (w6.setCells ge (at1 * 128) ((secZ F1 at1).map (Value.int .u8))) from ⟨by
              rw [fix_snoc _ _ _ _ _ HCX.out, ← HEK.out]
              exact H6.out.1.setSeen at1 (secZ F1 at1) HsF.out hatn, below_cells (H6.out.1.see.lt ge rfl).1 _ _ H6.out.2.1, H6.out.2.2.1.ownrow H6.out.1.see (.inr (.inl rfl)) (cells_grownK _ _ _)⟩)
            clear H6 S0 HW6 HW5
            go_wp2
            go_roundw
            case rel => exact ⟨i + 1, by omega, by go_num, Z7.out.1, Z7.out.2.1, Z7.out.2.2⟩
            case measure => simp [intOf]; omega
        · have hi2 : i = CL := by omega
          subst hi2
          have q1 : ¬ ((i : Int) < (i : Int)) := by omega
          have hE : EK = F1 := by
            have h1 := HEK.out
            rw [List.take_of_length_le (by have := HCL.out; omega)] at h1
            rw [h1, HF1.out]
            exact fix_all HV.out.lens.1 HV.out.ok (keptP_mem _ C _)
          have c2 := (HX.out.1.blk.cell 2).trans (show _ = some (.slice ca i cc) from rfl)
          have f2 := HX.out.1.blk.frozen 2
          have HE := hide (show Dev (wr.setCell ⟨d, 2, none⟩ (.slice none 0 0)) base d (.slice (some ⟨gf, 0, none⟩) n fc) (.slice (some ⟨ge, 0, none⟩) n ec) (.slice none 0 0) n F1 F1 [] fuse off ∧ Below base W (wr.setCell ⟨d, 2, none⟩ (.slice none 0 0)) ∧ KpY TyP W (wr.setCell ⟨d, 2, none⟩ (.slice none 0 0)) from ⟨by have := HX.out.1.setNil; rw [hE] at this; exact this, HX.out.2.1.setCell (p := ⟨d, 2, none⟩) hd _, HX.out.2.2.setCell HX.out.1.blk (.inl rfl)⟩)
          clear hE
          go_wp2
          go_end0
          rw [← HCL.out, ← HF1.out]
          exact ⟨rfl, HE.out.1, HE.out.2.1, HE.out.2.2⟩
set_option maxRecDepth 100000 in
set_option maxHeartbeats 8000000 in
theorem settle_by {W : World} {base d : Nat} {vf ve vc : Value} {n : Nat} {F : List Int} {C : List (Nat × List Int)} {fuse : Int} {off : Bool} (h : Dev W base d vf ve vc n F (mkW F (byC C)) C fuse off) (hd : base ≤ d) (hn : 0 < n) (hC : C.length ≤ 100000) (g : Nat) (vch : Value) (ch : List Int) (hg : Blk W g #[vch] 22) (w0 : World) (hch : Rd .u8 w0 vch ch) (hw0 : Below w0.heap.size w0 W) (hw1 : w0.heap.size ≤ base) (hbd : ∀ z ∈ ch, 0 ≤ z ∧ z < 256) :
    Calls Try.prog 57 #[.pointer (some ⟨d, 0, none⟩), .func (.func 61) #[] #[.pointer (some ⟨g, 0, none⟩)]] W fun e w' => e = .returned (.tuple #[]) ∧ Dev w' base d vf ve (.slice none 0 0) n (mkW F (byC (keptP (keeps ch) C C.length))) (mkW F (byC (keptP (keeps ch) C C.length))) [] fuse off ∧ Below base W w' ∧ KpY TyP W w' := by
  have hn8 := h.n1
  have hbW : base ≤ W.heap.size := by have := h.blk.lt; omega
  obtain ⟨gf, fc, rfl⟩ := place_rowK h.saf hn
  obtain ⟨ge, ec, rfl⟩ := place_rowK h.see hn
  obtain ⟨ca, cc, rfl⟩ := shape_rowK h.cac
  obtain ⟨CL, hCL⟩ : ∃ CL, CL = C.length := ⟨_, rfl⟩
  rw [← hCL] at h hC
  have HV := hide h
  have HCL := hide hCL
  obtain ⟨Z, hZ⟩ : ∃ Z : Array Value, Z = zSWc := ⟨_, rfl⟩
  have HAl := hide (show ∀ (ρ : Operand → Value) (o : Oper) (w : World), o.op = .alloc 95 → (execOp ρ o).run Try.prog w = .ok (.value (.pointer (some ⟨w.heap.size, 0, none⟩))) (w.alloc (.cells Z 95)) from fun ρ o w ho => by rw [hZ]; exact run_allocSW ρ o ho w)
  have HG0 := hide (And.intro hch (And.intro hw0 (And.intro hbd hg)))
  have HZ := hide (show Z.size = 129 by rw [hZ]; simp [zSWc, zSec])
  have c2 := (h.blk.cell 2).trans (show _ = some (.slice ca CL cc) from rfl)
  clear hZ h hCL hch hw0 hbd hg
  go_enter Try.func57, Try.ntmps57
  go_wp2
  go_loopw [13] (fun iv wx => ∃ i : Nat, i ≤ CL ∧ iv = .int .i64 (i : Int) ∧ Dev wx base d (.slice (some ⟨gf, 0, none⟩) n fc) (.slice (some ⟨ge, 0, none⟩) n ec) (.slice ca CL cc) n (mkW F (byC (keptP (keeps ch) C i))) (mkW F (byC C)) C fuse off ∧ Below base W wx ∧ KpY TyP W wx) (fun iv _ => CL - (intOf iv).toNat)
  case atStart => exact ⟨0, by omega, rfl, HV.out, Below.refl _ _, KpY.refl _ _⟩
  case round =>
    clear c2
    obtain ⟨i, hiC, rfl, hv, hb, hy⟩ := hrel
    have HX := hide (And.intro hv (And.intro hb hy))
    clear hv hb hy
    by_cases hlt : i < CL
    · have hI : (i : Int) < (CL : Int) := by omega
      have hi1 : i ≤ 1000000 := by omega
      obtain ⟨c, hcx⟩ : ∃ c, C[i]? = some c := ⟨_, List.getElem?_eq_getElem (by have := HCL.out; omega)⟩
      obtain ⟨at1, P⟩ := c
      have HCX := hide hcx
      have hcl := HV.out.ok (at1, P) (List.mem_of_getElem? hcx)
      have hPl : P.length = 128 := hcl.2
      have hatn : at1 < n := hcl.1
      have hatI : (at1 : Int) < (n : Int) := by omega
      obtain ⟨gc, cc2, hvc⟩ := place_rowK HX.out.1.cac (by have := HCL.out; omega)
      injection hvc with e1 e2 e3
      subst e1
      subst e3
      clear e2
      have HR := hide (cac_range HX.out.1.cac (fun c hc => (HV.out.ok c hc).2) hcx)
      obtain ⟨W3, hW3⟩ : ∃ W3, W3 = (wr.alloc (.cells Z 95)).setRow wr.heap.size (secX at1 P) := ⟨_, rfl⟩
      have B3 := hide (show Below wr.heap.size wr W3 from by rw [hW3]; exact below_setRow ((Below.refl _ _).alloc (Nat.le_refl _) _) (Nat.le_refl _) _)
      have K3 := hide (show Blk W3 wr.heap.size (secX at1 P) 95 from by rw [hW3]; exact (Blk.new wr Z 95).row _)
      have KN := hide (Blk.new wr Z 95)
      have HW3 := hide hW3
      have HPl := hide hPl
      have HSx := hide (secX_size at1 P hPl)
      obtain ⟨gB, hgB⟩ : ∃ gB, gB = wr.heap.size := ⟨_, rfl⟩
      have HgB := hide hgB
      have hlw := HX.out.2.1.size
      have X3 := hide (show Dev W3 base d (.slice (some ⟨gf, 0, none⟩) n fc) (.slice (some ⟨ge, 0, none⟩) n ec) (.slice (some ⟨gc, 0, none⟩) CL cc) n (mkW F (byC (keptP (keeps ch) C i))) (mkW F (byC C)) C fuse off ∧ Below base W W3 ∧ KpY TyP W W3 ∧ Blk W3 gB (secX at1 P) 95 from ⟨HX.out.1.below B3.out, HX.out.2.1.trans (B3.out.mono (by omega)), HX.out.2.2.below B3.out, by rw [hgB]; exact K3.out⟩)
      clear hW3 hPl hgB hcl
      go_upto_region 3 with (first
        | (refine wpList_load_mid rfl 95 _ rfl gc (i * 129) rfl (secX at1 P).toList _ HR.out Try.underlying95 rfl (by rw [Array.length_toList, HSx.out]; exact infoSWs) ?_)
        | (refine Great.wpList_allocTo rfl (some 5) rfl (.pointer (some ⟨wr.heap.size, 0, none⟩)) (.cells Z 95) (HAl.out _ _ _ rfl) ?_)
        | (refine wpList_store_row rfl 95 _ _ rfl wr.heap.size (secX at1 P) rfl rfl 95 Z KN.out (by rw [HSx.out]; exact infoSWs) (by rw [HZ.out, HSx.out]) (secX_one at1 P) ?_)
        | fail)
      rw [← HW3.out, ← HgB.out]
      clear HR KN HW3 K3 B3
      clear hcx
      have HG := hide (show Rd .u8 w0 vch ch ∧ Below w0.heap.size w0 W ∧ (∀ z ∈ ch, 0 ≤ z ∧ z < 256) ∧ True ∧ Blk W3 g #[vch] 22 from ⟨HG0.out.1, HG0.out.2.1, HG0.out.2.2.1, trivial, X3.out.2.2.1.blk HG0.out.2.2.2 (by unfold TyP; decide)⟩)
      go_wp2_with fail
      refine (surv_any g vch ch i W3 ((HG.out.2.2.2.2.cell 0).trans (show _ = some vch from rfl)) (HG.out.1.below (HG.out.2.1.trans (X3.out.2.1.mono hw1))) HG.out.2.2.1 hi1).mono ?_
      rintro e w5 ⟨rfl, rfl⟩
      cases hkp : (keeps ch i) with
      | false =>
        have Z7 := hide (show Dev w5 base d (.slice (some ⟨gf, 0, none⟩) n fc) (.slice (some ⟨ge, 0, none⟩) n ec) (.slice (some ⟨gc, 0, none⟩) CL cc) n (mkW F (byC (keptP (keeps ch) C (i + 1)))) (mkW F (byC C)) C fuse off ∧ Below base W w5 ∧ KpY TyP W w5 from ⟨by rw [keptP_no HCX.out hkp]; exact X3.out.1, X3.out.2.1, X3.out.2.2.1⟩)
        clear X3
        go_wp2
        go_roundw
        case rel => exact ⟨i + 1, by omega, by go_num, Z7.out.1, Z7.out.2.1, Z7.out.2.2⟩
        case measure => simp [intOf]; omega
      | true =>
        obtain ⟨w6, hw6⟩ : ∃ w6, w6 = w5.drew := ⟨_, rfl⟩
        have b6 : Below w5.heap.size w5 w6 := by rw [hw6]; exact (Below.refl _ _).drew
        have H6 := hide (show Dev w6 base d (.slice (some ⟨gf, 0, none⟩) n fc) (.slice (some ⟨ge, 0, none⟩) n ec) (.slice (some ⟨gc, 0, none⟩) CL cc) n (mkW F (byC (keptP (keeps ch) C i))) (mkW F (byC C)) C fuse off ∧ Below base W w6 ∧ KpY TyP W w6 ∧ Blk w6 gB (secX at1 P) 95 from ⟨X3.out.1.below b6, X3.out.2.1.trans (b6.mono (Nat.le_trans hbW X3.out.2.1.size)), X3.out.2.2.1.below b6, X3.out.2.2.2.below b6 X3.out.2.2.2.lt⟩)
        have S6 := hide (And.intro ((H6.out.1.blk.cell 0).trans (show _ = some (.slice (some ⟨gf, 0, none⟩) n fc) from rfl)) H6.out.2.2.2)
        have HW6 := hide hw6
        clear hw6 b6 X3
        go_upto_region 4 with fail
        refine wp_region_noPanic ?_
        refine wp_region_heldL (fun w' => w'.cell? ⟨d, 0, none⟩ = some (.slice (some ⟨gf, 0, none⟩) n fc) ∧ Blk w' gB (secX at1 P) 95) 9 (by kernel_rfl) ?_
        rw [← HW6.out]
        refine wpAnyL_take (i := 0) (oi := _) (v := .pointer (some ⟨d, 0, none⟩)) rfl (by kernel_rfl) (by kernel_rfl) (by kernel_rfl) (by kernel_rfl) (fun _ _ _ h => h) (Or.inl ⟨by rfl, fun w' hw' => by go_simp⟩) S6.out ?_
        try simp only [Act.put, List.getElem_toArray, List.getElem_cons_zero, List.getElem_cons_succ, List.setIfInBounds_toArray, List.set_cons_zero, List.set_cons_succ]
        refine wpAnyL_take (i := 1) (oi := _) (v := .pointer (some ⟨d, 0, none⟩)) rfl (by kernel_rfl) (by kernel_rfl) (by kernel_rfl) (by kernel_rfl) (fun _ _ _ h => h) (Or.inl ⟨by rfl, fun w' hw' => by go_simp⟩) S6.out ?_
        try simp only [Act.put, List.getElem_toArray, List.getElem_cons_zero, List.getElem_cons_succ, List.setIfInBounds_toArray, List.set_cons_zero, List.set_cons_succ]
        refine wpAnyL_take (i := 2) (oi := _) (v := .pointer (some ⟨d, 0, none⟩)) rfl (by kernel_rfl) (by kernel_rfl) (by kernel_rfl) (by kernel_rfl) (fun _ _ _ h => h) (Or.inl ⟨by rfl, fun w' hw' => by go_simp⟩) S6.out ?_
        try simp only [Act.put, List.getElem_toArray, List.getElem_cons_zero, List.getElem_cons_succ, List.setIfInBounds_toArray, List.set_cons_zero, List.set_cons_succ]
        refine wpAnyL_take (i := 3) (oi := _) (v := .slice (some ⟨gf, 0, none⟩) n fc) rfl (by kernel_rfl) (by kernel_rfl) (by kernel_rfl) (by kernel_rfl) (fun _ _ _ h => h) (Or.inl ⟨by rfl, fun w' hw' => by have hw2 : w'.cell? ⟨d, 0, none⟩ = some (.slice (some ⟨gf, 0, none⟩) n fc) := hw'.1; go_simp⟩) S6.out ?_
        try simp only [Act.put, List.getElem_toArray, List.getElem_cons_zero, List.getElem_cons_succ, List.setIfInBounds_toArray, List.set_cons_zero, List.set_cons_succ]
        refine wpAnyL_take (i := 4) (oi := _) (v := .pointer (some ⟨gB, 0, none⟩)) rfl (by kernel_rfl) (by kernel_rfl) (by kernel_rfl) (by kernel_rfl) (fun _ _ _ h => h) (Or.inl ⟨by rfl, fun w' hw' => by go_simp⟩) S6.out ?_
        try simp only [Act.put, List.getElem_toArray, List.getElem_cons_zero, List.getElem_cons_succ, List.setIfInBounds_toArray, List.set_cons_zero, List.set_cons_succ]
        refine wpAnyL_take (i := 5) (oi := _) (v := .int .i64 (at1 : Int)) rfl (by kernel_rfl) (by kernel_rfl) (by kernel_rfl) (by kernel_rfl) (fun _ _ _ h => h) (Or.inl ⟨by rfl, fun w' hw' => by have hw2 : w'.cell? ⟨gB, 0, none⟩ = some (.int .i64 (at1 : Int)) := secX_at hw'.2; go_simp⟩) S6.out ?_
        try simp only [Act.put, List.getElem_toArray, List.getElem_cons_zero, List.getElem_cons_succ, List.setIfInBounds_toArray, List.set_cons_zero, List.set_cons_succ]
        refine wpAnyL_take (i := 6) (oi := _) (v := .pointer (some ⟨gB, 1, none⟩)) rfl (by kernel_rfl) (by kernel_rfl) (by kernel_rfl) (by kernel_rfl) (fun _ _ _ h => h) (Or.inl ⟨by rfl, fun w' hw' => by go_simp⟩) S6.out ?_
        try simp only [Act.put, List.getElem_toArray, List.getElem_cons_zero, List.getElem_cons_succ, List.setIfInBounds_toArray, List.set_cons_zero, List.set_cons_succ]
        refine wpAnyL_take (i := 7) (oi := _) (v := .agg (P.map (Value.int .u8)).toArray) rfl (by kernel_rfl) (by kernel_rfl) (by kernel_rfl) (by kernel_rfl) (fun _ _ _ h => h) (yieldsIf_load_mid (by rfl) 76 _ rfl gB 1 rfl (P.map (Value.int .u8)) _ (fun w' h => secX_data h.2) Try.underlying76 rfl (by rw [List.length_map, HPl.out]; exact infoSec)) S6.out ?_
        try simp only [Act.put, List.getElem_toArray, List.getElem_cons_zero, List.getElem_cons_succ, List.setIfInBounds_toArray, List.set_cons_zero, List.set_cons_succ]
        refine wpAnyL_take (i := 8) (oi := _) (v := .pointer (some ⟨gf, at1 * 128, none⟩)) rfl (by kernel_rfl) (by kernel_rfl) (by kernel_rfl) (by kernel_rfl) (fun _ _ _ h => h) (Or.inl ⟨by rfl, fun w' hw' => by go_simp⟩) S6.out ?_
        try simp only [Act.put, List.getElem_toArray, List.getElem_cons_zero, List.getElem_cons_succ, List.setIfInBounds_toArray, List.set_cons_zero, List.set_cons_succ]
        refine wpAnyL_one (i := 9) (by kernel_rfl) rfl (fun K hK => ?_)
        rw [if_pos (by rfl)]
        refine wp_store_mid 76 _ _ rfl gf (at1 * 128) (P.map (Value.int .u8)).toArray rfl rfl (there_row H6.out.1.saf (by rw [List.size_toArray, List.length_map, HPl.out]; omega)) (by rw [List.size_toArray, List.length_map, HPl.out]; exact infoSec) (by simp [Value.oneCell']) ?_
        rw [List.toList_toArray]
        refine hK.out _ _ (fun h => absurd rfl h) ?_
        clear hK K
        try simp only [Act.put, List.getElem_toArray, List.getElem_cons_zero, List.getElem_cons_succ, List.setIfInBounds_toArray, List.set_cons_zero, List.set_cons_succ]
        refine wpAnyL_done (by kernel_rfl) (NoPanic.normal ?_) _
        have Z7 := hide (show Dev (w6.setCells gf (at1 * 128) (P.map (Value.int .u8))) base d (.slice (some ⟨gf, 0, none⟩) n fc) (.slice (some ⟨ge, 0, none⟩) n ec) (.slice (some ⟨gc, 0, none⟩) CL cc) n (mkW F (byC (keptP (keeps ch) C (i + 1)))) (mkW F (byC C)) C fuse off ∧ Below base W (w6.setCells gf (at1 * 128) (P.map (Value.int .u8))) ∧ KpY TyP W (w6.setCells gf (at1 * 128) (P.map (Value.int .u8))) from ⟨by
          rw [keptP_yes HCX.out hkp, byC_snoc, mkW_push]
          exact H6.out.1.setSafe at1 P HPl.out hatn, below_cells (H6.out.1.saf.lt gf rfl).1 _ _ H6.out.2.1, H6.out.2.2.1.ownrow H6.out.1.saf (.inr (.inl rfl)) (cells_grownK _ _ _)⟩)
        clear H6 S6 HW6
        go_wp2
        go_roundw
        case rel => exact ⟨i + 1, by omega, by go_num, Z7.out.1, Z7.out.2.1, Z7.out.2.2⟩
        case measure => simp [intOf]; omega
    · have hi2 : i = CL := by omega
      subst hi2
      have q1 : ¬ ((i : Int) < (i : Int)) := by omega
      obtain ⟨F1, hF1⟩ : ∃ F1, F1 = mkW F (byC (keptP (keeps ch) C i)) := ⟨_, rfl⟩
      rw [← hF1] at HX
      have HF1 := hide hF1
      clear hF1
      have c2 := (HX.out.1.blk.cell 2).trans (show _ = some (.slice ca i cc) from rfl)
      have Y0 := HX
      clear HX
      obtain ⟨CL, hCL2⟩ : ∃ CL, CL = i := ⟨_, rfl⟩
      rw [← hCL2] at Y0 c2 HCL hC HF1 HV ⊢
      clear hCL2 q1 hiC
      go_wp2
      go_loopw [36] (fun iv wx => ∃ i : Nat, i ≤ CL ∧ iv = .int .i64 (i : Int) ∧ Dev wx base d (.slice (some ⟨gf, 0, none⟩) n fc) (.slice (some ⟨ge, 0, none⟩) n ec) (.slice ca CL cc) n F1 (fixE F1 (mkW F (byC C)) (C.take i)) C fuse off ∧ Below base W wx ∧ KpY TyP W wx) (fun iv _ => CL - (intOf iv).toNat)
      case atStart => exact ⟨0, by omega, rfl, Y0.out.1, Y0.out.2.1, Y0.out.2.2⟩
      case round =>
        clear c2 Y0
        obtain ⟨i, hiC, rfl, hv, hb, hy⟩ := hrel
        obtain ⟨EK, hEK⟩ : ∃ EK, EK = fixE F1 (mkW F (byC C)) (C.take i) := ⟨_, rfl⟩
        rw [← hEK] at hv
        have HEK := hide hEK
        have HX := hide (And.intro hv (And.intro hb hy))
        clear hv hb hy hEK
        by_cases hlt : i < CL
        · have hI : (i : Int) < (CL : Int) := by omega
          obtain ⟨c, hcx⟩ : ∃ c, C[i]? = some c := ⟨_, List.getElem?_eq_getElem (by have := HCL.out; omega)⟩
          obtain ⟨at1, P⟩ := c
          have HCX := hide hcx
          have hcl := HV.out.ok (at1, P) (List.mem_of_getElem? hcx)
          have hPl : P.length = 128 := hcl.2
          have hatn : at1 < n := hcl.1
          have hatI : (at1 : Int) < (n : Int) := by omega
          obtain ⟨gc, cc2, hvc⟩ := place_rowK HX.out.1.cac (by have := HCL.out; omega)
          injection hvc with e1 e2 e3
          subst e1
          subst e3
          clear e2
          have HR := hide (cac_range HX.out.1.cac (fun c hc => (HV.out.ok c hc).2) hcx)
          obtain ⟨W3, hW3⟩ : ∃ W3, W3 = (wr.alloc (.cells Z 95)).setRow wr.heap.size (secX at1 P) := ⟨_, rfl⟩
          have B3 := hide (show Below wr.heap.size wr W3 from by rw [hW3]; exact below_setRow ((Below.refl _ _).alloc (Nat.le_refl _) _) (Nat.le_refl _) _)
          have K3 := hide (show Blk W3 wr.heap.size (secX at1 P) 95 from by rw [hW3]; exact (Blk.new wr Z 95).row _)
          have KN := hide (Blk.new wr Z 95)
          have HW3 := hide hW3
          have HPl := hide hPl
          have HSx := hide (secX_size at1 P hPl)
          obtain ⟨gB, hgB⟩ : ∃ gB, gB = wr.heap.size := ⟨_, rfl⟩
          have HgB := hide hgB
          have hlw := HX.out.2.1.size
          have X3 := hide (show Dev W3 base d (.slice (some ⟨gf, 0, none⟩) n fc) (.slice (some ⟨ge, 0, none⟩) n ec) (.slice (some ⟨gc, 0, none⟩) CL cc) n F1 EK C fuse off ∧ Below base W W3 ∧ KpY TyP W W3 ∧ Blk W3 gB (secX at1 P) 95 from ⟨HX.out.1.below B3.out, HX.out.2.1.trans (B3.out.mono (by omega)), HX.out.2.2.below B3.out, by rw [hgB]; exact K3.out⟩)
          clear hW3 hPl hgB hcl
          go_upto_region 9 with (first
            | (refine wpList_load_mid rfl 95 _ rfl gc (i * 129) rfl (secX at1 P).toList _ HR.out Try.underlying95 rfl (by rw [Array.length_toList, HSx.out]; exact infoSWs) ?_)
            | (refine Great.wpList_allocTo rfl (some 7) rfl (.pointer (some ⟨wr.heap.size, 0, none⟩)) (.cells Z 95) (HAl.out _ _ _ rfl) ?_)
            | (refine wpList_store_row rfl 95 _ _ rfl wr.heap.size (secX at1 P) rfl rfl 95 Z KN.out (by rw [HSx.out]; exact infoSWs) (by rw [HZ.out, HSx.out]) (secX_one at1 P) ?_)
            | fail)
          rw [← HW3.out, ← HgB.out]
          clear HR KN HW3 K3 B3
          clear hcx
          have hls := X3.out.1.lens
          have HsF := hide (secZ_len hls.1 hatn)
          have HsE := hide (secZ_len hls.2 hatn)
          have HlE := hide hls.2
          clear hls
          have S3 := hide (show W3.cell? ⟨d, 0, none⟩ = some (.slice (some ⟨gf, 0, none⟩) n fc) ∧ W3.cell? ⟨d, 1, none⟩ = some (.slice (some ⟨ge, 0, none⟩) n ec) ∧ W3.cell? ⟨gB, 0, none⟩ = some (.int .i64 (at1 : Int)) ∧ W3.rangeAt gf (at1 * 128) ((secZ F1 at1).map (Value.int .u8)) ∧ W3.rangeAt ge (at1 * 128) ((secZ EK at1).map (Value.int .u8)) from ⟨(X3.out.1.blk.cell 0).trans rfl, (X3.out.1.blk.cell 1).trans rfl, secX_at X3.out.2.2.2, sec_range X3.out.1.saf hatn, sec_range X3.out.1.see hatn⟩)
          have SD := hide (show W3.drew.cell? ⟨d, 0, none⟩ = some (.slice (some ⟨gf, 0, none⟩) n fc) ∧ W3.drew.cell? ⟨d, 1, none⟩ = some (.slice (some ⟨ge, 0, none⟩) n ec) ∧ W3.drew.cell? ⟨gB, 0, none⟩ = some (.int .i64 (at1 : Int)) ∧ W3.drew.rangeAt gf (at1 * 128) ((secZ F1 at1).map (Value.int .u8)) ∧ W3.drew.rangeAt ge (at1 * 128) ((secZ EK at1).map (Value.int .u8)) from S3.out)
          refine wp_region_noPanic ?_
          refine wp_region_held_drew (S := fun w' => w'.cell? ⟨d, 0, none⟩ = some (.slice (some ⟨gf, 0, none⟩) n fc) ∧ w'.cell? ⟨d, 1, none⟩ = some (.slice (some ⟨ge, 0, none⟩) n ec) ∧ w'.cell? ⟨gB, 0, none⟩ = some (.int .i64 (at1 : Int)) ∧ w'.rangeAt gf (at1 * 128) ((secZ F1 at1).map (Value.int .u8)) ∧ w'.rangeAt ge (at1 * 128) ((secZ EK at1).map (Value.int .u8))) (by kernel_rfl) SD.out (fun hH => ?_)
          refine wpAnyH_take (i := 0) (oi := _) (v := .pointer (some ⟨d, 0, none⟩)) rfl (by kernel_rfl) (by kernel_rfl) (by kernel_rfl) (fun _ _ _ h => h) (Or.inl ⟨by rfl, fun w' hw' => by go_simp⟩) hH ?_
          try simp only [Act.put, List.getElem_toArray, List.getElem_cons_zero, List.getElem_cons_succ, List.setIfInBounds_toArray, List.set_cons_zero, List.set_cons_succ]
          refine wpAnyH_take (i := 1) (oi := _) (v := .pointer (some ⟨d, 0, none⟩)) rfl (by kernel_rfl) (by kernel_rfl) (by kernel_rfl) (fun _ _ _ h => h) (Or.inl ⟨by rfl, fun w' hw' => by go_simp⟩) hH ?_
          try simp only [Act.put, List.getElem_toArray, List.getElem_cons_zero, List.getElem_cons_succ, List.setIfInBounds_toArray, List.set_cons_zero, List.set_cons_succ]
          refine wpAnyH_take (i := 2) (oi := _) (v := .pointer (some ⟨d, 1, none⟩)) rfl (by kernel_rfl) (by kernel_rfl) (by kernel_rfl) (fun _ _ _ h => h) (Or.inl ⟨by rfl, fun w' hw' => by go_simp⟩) hH ?_
          try simp only [Act.put, List.getElem_toArray, List.getElem_cons_zero, List.getElem_cons_succ, List.setIfInBounds_toArray, List.set_cons_zero, List.set_cons_succ]
          refine wpAnyH_take (i := 3) (oi := _) (v := .slice (some ⟨ge, 0, none⟩) n ec) rfl (by kernel_rfl) (by kernel_rfl) (by kernel_rfl) (fun _ _ _ h => h) (Or.inl ⟨by rfl, fun w' hw' => by have hw2 : w'.cell? ⟨d, 1, none⟩ = some (.slice (some ⟨ge, 0, none⟩) n ec) := hw'.2.1; go_simp⟩) hH ?_
          try simp only [Act.put, List.getElem_toArray, List.getElem_cons_zero, List.getElem_cons_succ, List.setIfInBounds_toArray, List.set_cons_zero, List.set_cons_succ]
          refine wpAnyH_take (i := 4) (oi := _) (v := .pointer (some ⟨gB, 0, none⟩)) rfl (by kernel_rfl) (by kernel_rfl) (by kernel_rfl) (fun _ _ _ h => h) (Or.inl ⟨by rfl, fun w' hw' => by go_simp⟩) hH ?_
          try simp only [Act.put, List.getElem_toArray, List.getElem_cons_zero, List.getElem_cons_succ, List.setIfInBounds_toArray, List.set_cons_zero, List.set_cons_succ]
          refine wpAnyH_take (i := 5) (oi := _) (v := .int .i64 (at1 : Int)) rfl (by kernel_rfl) (by kernel_rfl) (by kernel_rfl) (fun _ _ _ h => h) (Or.inl ⟨by rfl, fun w' hw' => by have hw2 : w'.cell? ⟨gB, 0, none⟩ = some (.int .i64 (at1 : Int)) := hw'.2.2.1; go_simp⟩) hH ?_
          try simp only [Act.put, List.getElem_toArray, List.getElem_cons_zero, List.getElem_cons_succ, List.setIfInBounds_toArray, List.set_cons_zero, List.set_cons_succ]
          refine wpAnyH_take (i := 6) (oi := _) (v := .pointer (some ⟨ge, at1 * 128, none⟩)) rfl (by kernel_rfl) (by kernel_rfl) (by kernel_rfl) (fun _ _ _ h => h) (Or.inl ⟨by rfl, fun w' hw' => by go_simp⟩) hH ?_
          try simp only [Act.put, List.getElem_toArray, List.getElem_cons_zero, List.getElem_cons_succ, List.setIfInBounds_toArray, List.set_cons_zero, List.set_cons_succ]
          refine wpAnyH_take (i := 7) (oi := _) (v := .agg (cellsK (secZ EK at1))) rfl (by kernel_rfl) (by kernel_rfl) (by kernel_rfl) (fun _ _ _ h => h) (yieldsIf_load_mid (by rfl) 76 _ rfl ge (at1 * 128) rfl ((secZ EK at1).map (Value.int .u8)) _ (fun w' h => h.2.2.2.2) Try.underlying76 rfl (by rw [List.length_map, HsE.out]; exact infoSec)) hH ?_
          try simp only [Act.put, List.getElem_toArray, List.getElem_cons_zero, List.getElem_cons_succ, List.setIfInBounds_toArray, List.set_cons_zero, List.set_cons_succ]
          refine wpAnyH_take (i := 8) (oi := _) (v := .pointer (some ⟨d, 0, none⟩)) rfl (by kernel_rfl) (by kernel_rfl) (by kernel_rfl) (fun _ _ _ h => h) (Or.inl ⟨by rfl, fun w' hw' => by go_simp⟩) hH ?_
          try simp only [Act.put, List.getElem_toArray, List.getElem_cons_zero, List.getElem_cons_succ, List.setIfInBounds_toArray, List.set_cons_zero, List.set_cons_succ]
          refine wpAnyH_take (i := 9) (oi := _) (v := .pointer (some ⟨d, 0, none⟩)) rfl (by kernel_rfl) (by kernel_rfl) (by kernel_rfl) (fun _ _ _ h => h) (Or.inl ⟨by rfl, fun w' hw' => by go_simp⟩) hH ?_
          try simp only [Act.put, List.getElem_toArray, List.getElem_cons_zero, List.getElem_cons_succ, List.setIfInBounds_toArray, List.set_cons_zero, List.set_cons_succ]
          refine wpAnyH_take (i := 10) (oi := _) (v := .pointer (some ⟨d, 0, none⟩)) rfl (by kernel_rfl) (by kernel_rfl) (by kernel_rfl) (fun _ _ _ h => h) (Or.inl ⟨by rfl, fun w' hw' => by go_simp⟩) hH ?_
          try simp only [Act.put, List.getElem_toArray, List.getElem_cons_zero, List.getElem_cons_succ, List.setIfInBounds_toArray, List.set_cons_zero, List.set_cons_succ]
          refine wpAnyH_take (i := 11) (oi := _) (v := .slice (some ⟨gf, 0, none⟩) n fc) rfl (by kernel_rfl) (by kernel_rfl) (by kernel_rfl) (fun _ _ _ h => h) (Or.inl ⟨by rfl, fun w' hw' => by have hw2 : w'.cell? ⟨d, 0, none⟩ = some (.slice (some ⟨gf, 0, none⟩) n fc) := hw'.1; go_simp⟩) hH ?_
          try simp only [Act.put, List.getElem_toArray, List.getElem_cons_zero, List.getElem_cons_succ, List.setIfInBounds_toArray, List.set_cons_zero, List.set_cons_succ]
          refine wpAnyH_take (i := 12) (oi := _) (v := .pointer (some ⟨gB, 0, none⟩)) rfl (by kernel_rfl) (by kernel_rfl) (by kernel_rfl) (fun _ _ _ h => h) (Or.inl ⟨by rfl, fun w' hw' => by go_simp⟩) hH ?_
          try simp only [Act.put, List.getElem_toArray, List.getElem_cons_zero, List.getElem_cons_succ, List.setIfInBounds_toArray, List.set_cons_zero, List.set_cons_succ]
          refine wpAnyH_take (i := 13) (oi := _) (v := .int .i64 (at1 : Int)) rfl (by kernel_rfl) (by kernel_rfl) (by kernel_rfl) (fun _ _ _ h => h) (Or.inl ⟨by rfl, fun w' hw' => by have hw2 : w'.cell? ⟨gB, 0, none⟩ = some (.int .i64 (at1 : Int)) := hw'.2.2.1; go_simp⟩) hH ?_
          try simp only [Act.put, List.getElem_toArray, List.getElem_cons_zero, List.getElem_cons_succ, List.setIfInBounds_toArray, List.set_cons_zero, List.set_cons_succ]
          refine wpAnyH_take (i := 14) (oi := _) (v := .pointer (some ⟨gf, at1 * 128, none⟩)) rfl (by kernel_rfl) (by kernel_rfl) (by kernel_rfl) (fun _ _ _ h => h) (Or.inl ⟨by rfl, fun w' hw' => by go_simp⟩) hH ?_
          try simp only [Act.put, List.getElem_toArray, List.getElem_cons_zero, List.getElem_cons_succ, List.setIfInBounds_toArray, List.set_cons_zero, List.set_cons_succ]
          refine wpAnyH_take (i := 15) (oi := _) (v := .agg (cellsK (secZ F1 at1))) rfl (by kernel_rfl) (by kernel_rfl) (by kernel_rfl) (fun _ _ _ h => h) (yieldsIf_load_mid (by rfl) 76 _ rfl gf (at1 * 128) rfl ((secZ F1 at1).map (Value.int .u8)) _ (fun w' h => h.2.2.2.1) Try.underlying76 rfl (by rw [List.length_map, HsF.out]; exact infoSec)) hH ?_
          try simp only [Act.put, List.getElem_toArray, List.getElem_cons_zero, List.getElem_cons_succ, List.setIfInBounds_toArray, List.set_cons_zero, List.set_cons_succ]
          refine wpAnyH_take (i := 16) (oi := _) (v := .bool (!decide (secZ EK at1 = secZ F1 at1))) rfl (by kernel_rfl) (by kernel_rfl) (by kernel_rfl) (fun _ _ _ h => h) (yieldsIf_neqK (by rfl) 76 _ _ _ rfl (cellsK (secZ EK at1)) (cellsK (secZ F1 at1)) rfl rfl guardSec _ (fun w => eqSec w _ _ HsE.out HsF.out)) hH ?_
          try simp only [Act.put, List.getElem_toArray, List.getElem_cons_zero, List.getElem_cons_succ, List.setIfInBounds_toArray, List.set_cons_zero, List.set_cons_succ]
          refine wpAnyH_done (by kernel_rfl) (NoPanic.normal ?_) _
          by_cases hsame : secZ EK at1 = secZ F1 at1
          · have qs : (!decide (secZ EK at1 = secZ F1 at1)) = false := by simp [hsame]
            rw [qs]
            have Z7 := hide (show Dev W3.drew base d (.slice (some ⟨gf, 0, none⟩) n fc) (.slice (some ⟨ge, 0, none⟩) n ec) (.slice (some ⟨gc, 0, none⟩) CL cc) n F1 (fixE F1 (mkW F (byC C)) (C.take (i + 1))) C fuse off ∧ Below base W W3.drew ∧ KpY TyP W W3.drew from ⟨by
              rw [fix_snoc _ _ _ _ _ HCX.out, ← HEK.out]
              show Dev W3.drew base d _ _ _ n F1 (splice EK (at1 * 128) (secZ F1 at1)) C fuse off
              rw [splice_same HlE.out hatn hsame]
              exact X3.out.1.below (Below.refl _ _).drew, X3.out.2.1.drew, X3.out.2.2.1.below (Below.refl _ _).drew⟩)
            clear qs hH X3 S3 SD
            go_wp2
            go_roundw
            case rel => exact ⟨i + 1, by omega, by go_num, Z7.out.1, Z7.out.2.1, Z7.out.2.2⟩
            case measure => simp [intOf]; omega
          · have qs : (!decide (secZ EK at1 = secZ F1 at1)) = true := by simp [hsame]
            rw [qs]
            clear qs hH
            obtain ⟨w5, hw5⟩ : ∃ w5, w5 = W3.drew := ⟨_, rfl⟩
            obtain ⟨w6, hw6⟩ : ∃ w6, w6 = w5.drew := ⟨_, rfl⟩
            have b6 : Below W3.heap.size W3 w6 := by rw [hw6, hw5]; exact ((Below.refl _ _).drew).drew
            have H6 := hide (show Dev w6 base d (.slice (some ⟨gf, 0, none⟩) n fc) (.slice (some ⟨ge, 0, none⟩) n ec) (.slice (some ⟨gc, 0, none⟩) CL cc) n F1 EK C fuse off ∧ Below base W w6 ∧ KpY TyP W w6 ∧ Blk w6 gB (secX at1 P) 95 from ⟨X3.out.1.below b6, X3.out.2.1.trans (b6.mono (Nat.le_trans hbW X3.out.2.1.size)), X3.out.2.2.1.below b6, X3.out.2.2.2.below b6 X3.out.2.2.2.lt⟩)
            have S0 := hide (show w6.cell? ⟨d, 0, none⟩ = some (.slice (some ⟨gf, 0, none⟩) n fc) ∧ w6.cell? ⟨d, 1, none⟩ = some (.slice (some ⟨ge, 0, none⟩) n ec) ∧ w6.cell? ⟨gB, 0, none⟩ = some (.int .i64 (at1 : Int)) ∧ w6.rangeAt gf (at1 * 128) ((secZ F1 at1).map (Value.int .u8)) ∧ w6.rangeAt ge (at1 * 128) ((secZ EK at1).map (Value.int .u8)) from ⟨(H6.out.1.blk.cell 0).trans rfl, (H6.out.1.blk.cell 1).trans rfl, secX_at H6.out.2.2.2, sec_range H6.out.1.saf hatn, sec_range H6.out.1.see hatn⟩)
            have HW5 := hide hw5
            have HW6 := hide hw6
            clear hw5 hw6 b6 X3 S3 SD
            go_upto_region 10 with fail
            rw [← HW5.out]
            refine wp_region_noPanic ?_
            refine wp_region_heldL (fun w' => w'.cell? ⟨d, 0, none⟩ = some (.slice (some ⟨gf, 0, none⟩) n fc) ∧ w'.cell? ⟨d, 1, none⟩ = some (.slice (some ⟨ge, 0, none⟩) n ec) ∧ w'.cell? ⟨gB, 0, none⟩ = some (.int .i64 (at1 : Int)) ∧ w'.rangeAt gf (at1 * 128) ((secZ F1 at1).map (Value.int .u8)) ∧ w'.rangeAt ge (at1 * 128) ((secZ EK at1).map (Value.int .u8))) 15 (by kernel_rfl) ?_
            rw [← HW6.out]
            refine wpAnyL_take (i := 0) (oi := _) (v := .pointer (some ⟨d, 0, none⟩)) rfl (by kernel_rfl) (by kernel_rfl) (by kernel_rfl) (by kernel_rfl) (fun _ _ _ h => h) (Or.inl ⟨by rfl, fun w' hw' => by go_simp⟩) S0.out ?_
            try simp only [Act.put, List.getElem_toArray, List.getElem_cons_zero, List.getElem_cons_succ, List.setIfInBounds_toArray, List.set_cons_zero, List.set_cons_succ]
            refine wpAnyL_take (i := 1) (oi := _) (v := .pointer (some ⟨d, 0, none⟩)) rfl (by kernel_rfl) (by kernel_rfl) (by kernel_rfl) (by kernel_rfl) (fun _ _ _ h => h) (Or.inl ⟨by rfl, fun w' hw' => by go_simp⟩) S0.out ?_
            try simp only [Act.put, List.getElem_toArray, List.getElem_cons_zero, List.getElem_cons_succ, List.setIfInBounds_toArray, List.set_cons_zero, List.set_cons_succ]
            refine wpAnyL_take (i := 2) (oi := _) (v := .pointer (some ⟨d, 1, none⟩)) rfl (by kernel_rfl) (by kernel_rfl) (by kernel_rfl) (by kernel_rfl) (fun _ _ _ h => h) (Or.inl ⟨by rfl, fun w' hw' => by go_simp⟩) S0.out ?_
            try simp only [Act.put, List.getElem_toArray, List.getElem_cons_zero, List.getElem_cons_succ, List.setIfInBounds_toArray, List.set_cons_zero, List.set_cons_succ]
            refine wpAnyL_take (i := 3) (oi := _) (v := .slice (some ⟨ge, 0, none⟩) n ec) rfl (by kernel_rfl) (by kernel_rfl) (by kernel_rfl) (by kernel_rfl) (fun _ _ _ h => h) (Or.inl ⟨by rfl, fun w' hw' => by have hw2 : w'.cell? ⟨d, 1, none⟩ = some (.slice (some ⟨ge, 0, none⟩) n ec) := hw'.2.1; go_simp⟩) S0.out ?_
            try simp only [Act.put, List.getElem_toArray, List.getElem_cons_zero, List.getElem_cons_succ, List.setIfInBounds_toArray, List.set_cons_zero, List.set_cons_succ]
            refine wpAnyL_take (i := 4) (oi := _) (v := .pointer (some ⟨gB, 0, none⟩)) rfl (by kernel_rfl) (by kernel_rfl) (by kernel_rfl) (by kernel_rfl) (fun _ _ _ h => h) (Or.inl ⟨by rfl, fun w' hw' => by go_simp⟩) S0.out ?_
            try simp only [Act.put, List.getElem_toArray, List.getElem_cons_zero, List.getElem_cons_succ, List.setIfInBounds_toArray, List.set_cons_zero, List.set_cons_succ]
            refine wpAnyL_take (i := 5) (oi := _) (v := .int .i64 (at1 : Int)) rfl (by kernel_rfl) (by kernel_rfl) (by kernel_rfl) (by kernel_rfl) (fun _ _ _ h => h) (Or.inl ⟨by rfl, fun w' hw' => by have hw2 : w'.cell? ⟨gB, 0, none⟩ = some (.int .i64 (at1 : Int)) := hw'.2.2.1; go_simp⟩) S0.out ?_
            try simp only [Act.put, List.getElem_toArray, List.getElem_cons_zero, List.getElem_cons_succ, List.setIfInBounds_toArray, List.set_cons_zero, List.set_cons_succ]
            refine wpAnyL_take (i := 6) (oi := _) (v := .pointer (some ⟨d, 0, none⟩)) rfl (by kernel_rfl) (by kernel_rfl) (by kernel_rfl) (by kernel_rfl) (fun _ _ _ h => h) (Or.inl ⟨by rfl, fun w' hw' => by go_simp⟩) S0.out ?_
            try simp only [Act.put, List.getElem_toArray, List.getElem_cons_zero, List.getElem_cons_succ, List.setIfInBounds_toArray, List.set_cons_zero, List.set_cons_succ]
            refine wpAnyL_take (i := 7) (oi := _) (v := .pointer (some ⟨d, 0, none⟩)) rfl (by kernel_rfl) (by kernel_rfl) (by kernel_rfl) (by kernel_rfl) (fun _ _ _ h => h) (Or.inl ⟨by rfl, fun w' hw' => by go_simp⟩) S0.out ?_
            try simp only [Act.put, List.getElem_toArray, List.getElem_cons_zero, List.getElem_cons_succ, List.setIfInBounds_toArray, List.set_cons_zero, List.set_cons_succ]
            refine wpAnyL_take (i := 8) (oi := _) (v := .pointer (some ⟨d, 0, none⟩)) rfl (by kernel_rfl) (by kernel_rfl) (by kernel_rfl) (by kernel_rfl) (fun _ _ _ h => h) (Or.inl ⟨by rfl, fun w' hw' => by go_simp⟩) S0.out ?_
            try simp only [Act.put, List.getElem_toArray, List.getElem_cons_zero, List.getElem_cons_succ, List.setIfInBounds_toArray, List.set_cons_zero, List.set_cons_succ]
            refine wpAnyL_take (i := 9) (oi := _) (v := .slice (some ⟨gf, 0, none⟩) n fc) rfl (by kernel_rfl) (by kernel_rfl) (by kernel_rfl) (by kernel_rfl) (fun _ _ _ h => h) (Or.inl ⟨by rfl, fun w' hw' => by have hw2 : w'.cell? ⟨d, 0, none⟩ = some (.slice (some ⟨gf, 0, none⟩) n fc) := hw'.1; go_simp⟩) S0.out ?_
            try simp only [Act.put, List.getElem_toArray, List.getElem_cons_zero, List.getElem_cons_succ, List.setIfInBounds_toArray, List.set_cons_zero, List.set_cons_succ]
            refine wpAnyL_take (i := 10) (oi := _) (v := .pointer (some ⟨gB, 0, none⟩)) rfl (by kernel_rfl) (by kernel_rfl) (by kernel_rfl) (by kernel_rfl) (fun _ _ _ h => h) (Or.inl ⟨by rfl, fun w' hw' => by go_simp⟩) S0.out ?_
            try simp only [Act.put, List.getElem_toArray, List.getElem_cons_zero, List.getElem_cons_succ, List.setIfInBounds_toArray, List.set_cons_zero, List.set_cons_succ]
            refine wpAnyL_take (i := 11) (oi := _) (v := .int .i64 (at1 : Int)) rfl (by kernel_rfl) (by kernel_rfl) (by kernel_rfl) (by kernel_rfl) (fun _ _ _ h => h) (Or.inl ⟨by rfl, fun w' hw' => by have hw2 : w'.cell? ⟨gB, 0, none⟩ = some (.int .i64 (at1 : Int)) := hw'.2.2.1; go_simp⟩) S0.out ?_
            try simp only [Act.put, List.getElem_toArray, List.getElem_cons_zero, List.getElem_cons_succ, List.setIfInBounds_toArray, List.set_cons_zero, List.set_cons_succ]
            refine wpAnyL_take (i := 12) (oi := _) (v := .pointer (some ⟨gf, at1 * 128, none⟩)) rfl (by kernel_rfl) (by kernel_rfl) (by kernel_rfl) (by kernel_rfl) (fun _ _ _ h => h) (Or.inl ⟨by rfl, fun w' hw' => by go_simp⟩) S0.out ?_
            try simp only [Act.put, List.getElem_toArray, List.getElem_cons_zero, List.getElem_cons_succ, List.setIfInBounds_toArray, List.set_cons_zero, List.set_cons_succ]
            refine wpAnyL_take (i := 13) (oi := _) (v := .agg (cellsK (secZ F1 at1))) rfl (by kernel_rfl) (by kernel_rfl) (by kernel_rfl) (by kernel_rfl) (fun _ _ _ h => h) (yieldsIf_load_mid (by rfl) 76 _ rfl gf (at1 * 128) rfl ((secZ F1 at1).map (Value.int .u8)) _ (fun w' h => h.2.2.2.1) Try.underlying76 rfl (by rw [List.length_map, HsF.out]; exact infoSec)) S0.out ?_
            try simp only [Act.put, List.getElem_toArray, List.getElem_cons_zero, List.getElem_cons_succ, List.setIfInBounds_toArray, List.set_cons_zero, List.set_cons_succ]
            refine wpAnyL_take (i := 14) (oi := _) (v := .pointer (some ⟨ge, at1 * 128, none⟩)) rfl (by kernel_rfl) (by kernel_rfl) (by kernel_rfl) (by kernel_rfl) (fun _ _ _ h => h) (Or.inl ⟨by rfl, fun w' hw' => by go_simp⟩) S0.out ?_
            try simp only [Act.put, List.getElem_toArray, List.getElem_cons_zero, List.getElem_cons_succ, List.setIfInBounds_toArray, List.set_cons_zero, List.set_cons_succ]
            refine wpAnyL_one (i := 15) (by kernel_rfl) rfl (fun K hK => ?_)
            rw [if_pos (by rfl)]
            refine wp_store_mid 76 _ _ rfl ge (at1 * 128) (cellsK (secZ F1 at1)) rfl rfl (there_row H6.out.1.see (by rw [cellsK, List.size_toArray, List.length_map, HsF.out]; omega)) (by rw [cellsK, List.size_toArray, List.length_map, HsF.out]; exact infoSec) (by simp [cellsK, Value.oneCell']) ?_
            rw [cellsK, List.toList_toArray]
            refine hK.out _ _ (fun h => absurd rfl h) ?_
            clear hK K
            try simp only [Act.put, List.getElem_toArray, List.getElem_cons_zero, List.getElem_cons_succ, List.setIfInBounds_toArray, List.set_cons_zero, List.set_cons_succ]
            refine wpAnyL_done (by kernel_rfl) (NoPanic.normal ?_) _
            have Z7 := hide (show Dev (w6.setCells ge (at1 * 128) ((secZ F1 at1).map (Value.int .u8))) base d (.slice (some ⟨gf, 0, none⟩) n fc) (.slice (some ⟨ge, 0, none⟩) n ec) (.slice (some ⟨gc, 0, none⟩) CL cc) n F1 (fixE F1 (mkW F (byC C)) (C.take (i + 1))) C fuse off ∧ Below base W (w6.setCells ge (at1 * 128) ((secZ F1 at1).map (Value.int .u8))) ∧ KpY TyP W (w6.setCells ge (at1 * 128) ((secZ F1 at1).map (Value.int .u8))) from ⟨by
              rw [fix_snoc _ _ _ _ _ HCX.out, ← HEK.out]
              exact H6.out.1.setSeen at1 (secZ F1 at1) HsF.out hatn, below_cells (H6.out.1.see.lt ge rfl).1 _ _ H6.out.2.1, H6.out.2.2.1.ownrow H6.out.1.see (.inr (.inl rfl)) (cells_grownK _ _ _)⟩)
            clear H6 S0 HW6 HW5
            go_wp2
            go_roundw
            case rel => exact ⟨i + 1, by omega, by go_num, Z7.out.1, Z7.out.2.1, Z7.out.2.2⟩
            case measure => simp [intOf]; omega
        · have hi2 : i = CL := by omega
          subst hi2
          have q1 : ¬ ((i : Int) < (i : Int)) := by omega
          have hE : EK = F1 := by
            have h1 := HEK.out
            rw [List.take_of_length_le (by have := HCL.out; omega)] at h1
            rw [h1, HF1.out]
            exact fix_all HV.out.lens.1 HV.out.ok (keptP_mem _ C _)
          have c2 := (HX.out.1.blk.cell 2).trans (show _ = some (.slice ca i cc) from rfl)
          have f2 := HX.out.1.blk.frozen 2
          have HE := hide (show Dev (wr.setCell ⟨d, 2, none⟩ (.slice none 0 0)) base d (.slice (some ⟨gf, 0, none⟩) n fc) (.slice (some ⟨ge, 0, none⟩) n ec) (.slice none 0 0) n F1 F1 [] fuse off ∧ Below base W (wr.setCell ⟨d, 2, none⟩ (.slice none 0 0)) ∧ KpY TyP W (wr.setCell ⟨d, 2, none⟩ (.slice none 0 0)) from ⟨by have := HX.out.1.setNil; rw [hE] at this; exact this, HX.out.2.1.setCell (p := ⟨d, 2, none⟩) hd _, HX.out.2.2.setCell HX.out.1.blk (.inl rfl)⟩)
          clear hE
          go_wp2
          go_end0
          rw [← HCL.out, ← HF1.out]
          exact ⟨rfl, HE.out.1, HE.out.2.1, HE.out.2.2⟩
end Go.Proofs.Ythghibopnnjboaa
