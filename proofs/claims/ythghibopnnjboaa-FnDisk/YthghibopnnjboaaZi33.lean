/- The program's cacheSector, walked: a sector write is cached, or the power fails. -/
import Derived.Test.YthghibopnnjboaaZi32
namespace Go.Proofs.Ythghibopnnjboaa
set_option linter.unusedVariables false
set_option linter.unusedSimpArgs false
open Go.RowKit

/-- What is thrown when the power fails. -/
def powerV : Value := .iface 85 (.agg #[])
theorem range_allK {w : World} {g : Nat} {X : Array Value} {t : TypeId} (h : Blk w g X t) : w.rangeAt g 0 X.toList := by
  intro j v hj
  rw [Nat.zero_add, h.cell j]
  simpa using hj
theorem secX_at {w : World} {g at1 : Nat} {P : List Int} {t : TypeId} (h : Blk w g (secX at1 P) t) : w.cell? ⟨g, 0, none⟩ = some (.int .i64 (at1 : Int)) := (h.cell 0).trans (by simp [secX])
theorem secX_data {w : World} {g at1 : Nat} {P : List Int} {t : TypeId} (h : Blk w g (secX at1 P) t) : w.rangeAt g 1 (P.map (Value.int .u8)) := by
  intro j v hj
  rw [h.cell (1 + j)]
  simp only [secX]
  rw [Nat.add_comm 1 j]
  simpa using hj
section
variable {W : World} {base d : Nat} {vf ve vc : Value} {n : Nat} {F E : List Int} {C : List (Nat × List Int)} {fuse : Int} {off : Bool}
set_option maxRecDepth 100000 in
set_option maxHeartbeats 4000000 in
theorem cacheSec_dies (h : Dev W base d vf ve vc n F E C fuse off) (hd : base ≤ d) (X : Array Value) (hf0 : fuse = 0) :
    Calls Try.prog 60 #[.pointer (some ⟨d, 0, none⟩), .agg X] W fun e w' => e = .panicked [{ v := powerV, recovered := false }] ∧ Dev w' base d vf ve vc n F E C fuse true ∧ Below base W w' ∧ KpY TyQ W w' := by
  subst hf0
  obtain ⟨W1, hW1⟩ : ∃ W1, W1 = W.alloc (.cells X 95) := ⟨_, rfl⟩
  have bW : Below W.heap.size W W1 := by rw [hW1]; exact (Below.refl _ _).alloc (Nat.le_refl _) _
  have hbW : base ≤ W.heap.size := by have := h.blk.lt; omega
  have V1 := hide (h.below bW)
  have HW1 := hide hW1
  have HE := hide (show Dev (W1.setCell ⟨d, 4, none⟩ (.bool true)) base d vf ve vc n F E C 0 true ∧ Below base W (W1.setCell ⟨d, 4, none⟩ (.bool true)) ∧ KpY TyQ W (W1.setCell ⟨d, 4, none⟩ (.bool true)) from ⟨V1.out.setOff true, (bW.mono hbW).setCell (p := ⟨d, 4, none⟩) hd _, ((KpY.refl _ _).below bW).setCell V1.out.blk (.inl rfl)⟩)
  have c3 := (V1.out.blk.cell 3).trans (show _ = some (.int .i64 0) from rfl)
  have c4 := (V1.out.blk.cell 4).trans (show _ = some (.bool off) from rfl)
  have f4 := V1.out.blk.frozen 4
  clear h hW1 bW
  go_enter Try.func60, Try.ntmps60
  go_upto_region 1 with fail
  rw [← HW1.out]
  go_wp2
  exact ⟨rfl, rfl, HE.out.1, HE.out.2.1, HE.out.2.2⟩
set_option maxRecDepth 100000 in
set_option maxHeartbeats 8000000 in
theorem cacheSec_any (h : Dev W base d vf ve vc n F E C fuse off) (hd : base ≤ d) (at1 : Nat) (P : List Int) (hP : P.length = 128) (hat : at1 < n) (hC : C.length + 1 ≤ 100000) (hf0 : ¬ (fuse = 0)) (hfu : fuse < 9223372036854775808) :
    Calls Try.prog 60 #[.pointer (some ⟨d, 0, none⟩), .agg (secX at1 P)] W fun e w' => ∃ vc', e = .returned (.tuple #[]) ∧ Dev w' base d vf ve vc' n F (splice E (at1 * 128) P) (C ++ [(at1, P)]) (fuJ fuse 1) off ∧ Below base W w' ∧ KpB TyQ (fun b => ve.ownBlock = some b) W w' := by
  obtain ⟨i0, hi, hz0, hz1, hz2⟩ := info_parts infoSW
  have hn8 := h.n1
  have hbW : base ≤ W.heap.size := by have := h.blk.lt; omega
  obtain ⟨ge, ec, rfl⟩ := place_rowK h.see (by omega)
  obtain ⟨ca, cc, rfl⟩ := shape_rowK h.cac
  obtain ⟨CL, hCL⟩ : ∃ CL, CL = C.length := ⟨_, rfl⟩
  rw [← hCL] at h hC
  obtain ⟨gB, hgB⟩ : ∃ gB, gB = W.heap.size := ⟨_, rfl⟩
  have HgD := hide (show gB ≠ d by have := h.blk.lt; omega)
  have HgB := hide (show some gB = (Value.slice ca CL cc).ownBlock → ¬ ((Value.slice ca CL cc).ownBlock = some gB) from fun e => absurd (h.cac.lt gB e.symm).2 (by omega))
  have HPl := hide hP
  have HX := hide (secX_size at1 P hP)
  have HCL := hide hCL
  have hatI : (at1 : Int) < (n : Int) := by omega
  obtain ⟨W1, hW1⟩ : ∃ W1, W1 = W.alloc (.cells (secX at1 P) 95) := ⟨_, rfl⟩
  have bW : Below W.heap.size W W1 := by rw [hW1]; exact (Below.refl _ _).alloc (Nat.le_refl _) _
  have V1 := hide (show Dev W1 base d vf (.slice (some ⟨ge, 0, none⟩) n ec) (.slice ca CL cc) n F E C fuse off ∧ Below base W W1 ∧ KpY TyQ W W1 ∧ Blk W1 gB (secX at1 P) 95 from ⟨h.below bW, bW.mono hbW, (KpY.refl _ _).below bW, by rw [hW1, hgB]; exact Blk.new W _ _⟩)
  have HW1 := hide hW1
  have c3 := (V1.out.1.blk.cell 3).trans (show _ = some (.int .i64 fuse) from rfl)
  have f3 := V1.out.1.blk.frozen 3
  have HgE := hide hgB
  clear h hW1 bW hP hCL hgB
  go_enter Try.func60, Try.ntmps60
  go_upto_region 1 with fail
  rw [← HW1.out, ← HgE.out]
  by_cases hp : 0 < fuse
  · obtain ⟨wq, hwq⟩ : ∃ wq, wq = W1.setCell ⟨d, 3, none⟩ (.int .i64 (fuse - 1)) := ⟨_, rfl⟩
    have hfj : fuJ fuse 1 = fuse - 1 := by unfold fuJ; rw [if_neg (by omega)]; rfl
    have HQ := hide (show Dev wq base d vf (.slice (some ⟨ge, 0, none⟩) n ec) (.slice ca CL cc) n F E C (fuJ fuse 1) off ∧ Below base W wq ∧ KpY TyQ W wq ∧ Blk wq gB (secX at1 P) 95 from by
      rw [hwq, hfj]
      exact ⟨V1.out.1.setFuse (fuse - 1), V1.out.2.1.setCell (p := ⟨d, 3, none⟩) hd _, V1.out.2.2.1.setCell V1.out.1.blk (.inl rfl), V1.out.2.2.2.other _ _ (by show gB ≠ d; exact HgD.out)⟩)
    have HWQ := hide hwq
    clear hwq hfj V1
    go_upto_region 6 with fail
    rw [← HWQ.out]
    clear c3 f3
    obtain ⟨wd, hwd⟩ : ∃ wd, wd = wq.drew := ⟨_, rfl⟩
    have bdr : Below wq.heap.size wq wd := by rw [hwd]; exact (Below.refl _ _).drew
    have HVd := hide (HQ.out.1.below bdr)
    have HBd := hide (show Below base W wd by rw [hwd]; exact HQ.out.2.1.drew)
    have HYd := hide (HQ.out.2.2.1.below bdr)
    have hbwd : base ≤ wd.heap.size := Nat.le_trans hbW HBd.out.size
    have S0 := hide (And.intro ((HVd.out.blk.cell 2).trans (show _ = some (.slice ca CL cc) from rfl)) (HQ.out.2.2.2.below bdr HQ.out.2.2.2.lt))
    have HWd := hide hwd
    clear hwd bdr
    refine wp_region_noPanic ?_
    refine wp_region_heldL (fun w' => w'.cell? ⟨d, 2, none⟩ = some (.slice ca CL cc) ∧ Blk w' gB (secX at1 P) 95) 10 (by kernel_rfl) ?_
    rw [← HWd.out]
    refine wpAnyL_take (i := 0) (oi := _) (v := .pointer (some ⟨d, 0, none⟩)) rfl (by kernel_rfl) (by kernel_rfl) (by kernel_rfl) (by kernel_rfl) (fun _ _ _ h => h) (Or.inl ⟨by rfl, fun w' hw' => by go_simp⟩) S0.out ?_
    try simp only [Act.put, List.getElem_toArray, List.getElem_cons_zero, List.getElem_cons_succ, List.setIfInBounds_toArray, List.set_cons_zero, List.set_cons_succ]
    refine wpAnyL_take (i := 1) (oi := _) (v := .pointer (some ⟨d, 0, none⟩)) rfl (by kernel_rfl) (by kernel_rfl) (by kernel_rfl) (by kernel_rfl) (fun _ _ _ h => h) (Or.inl ⟨by rfl, fun w' hw' => by go_simp⟩) S0.out ?_
    try simp only [Act.put, List.getElem_toArray, List.getElem_cons_zero, List.getElem_cons_succ, List.setIfInBounds_toArray, List.set_cons_zero, List.set_cons_succ]
    refine wpAnyL_take (i := 2) (oi := _) (v := .pointer (some ⟨d, 0, none⟩)) rfl (by kernel_rfl) (by kernel_rfl) (by kernel_rfl) (by kernel_rfl) (fun _ _ _ h => h) (Or.inl ⟨by rfl, fun w' hw' => by go_simp⟩) S0.out ?_
    try simp only [Act.put, List.getElem_toArray, List.getElem_cons_zero, List.getElem_cons_succ, List.setIfInBounds_toArray, List.set_cons_zero, List.set_cons_succ]
    refine wpAnyL_take (i := 3) (oi := _) (v := .pointer (some ⟨d, 2, none⟩)) rfl (by kernel_rfl) (by kernel_rfl) (by kernel_rfl) (by kernel_rfl) (fun _ _ _ h => h) (Or.inl ⟨by rfl, fun w' hw' => by go_simp⟩) S0.out ?_
    try simp only [Act.put, List.getElem_toArray, List.getElem_cons_zero, List.getElem_cons_succ, List.setIfInBounds_toArray, List.set_cons_zero, List.set_cons_succ]
    refine wpAnyL_take (i := 4) (oi := _) (v := .slice ca CL cc) rfl (by kernel_rfl) (by kernel_rfl) (by kernel_rfl) (by kernel_rfl) (fun _ _ _ h => h) (Or.inl ⟨by rfl, fun w' hw' => by have hw2 : w'.cell? ⟨d, 2, none⟩ = some (.slice ca CL cc) := hw'.1; go_simp⟩) S0.out ?_
    try simp only [Act.put, List.getElem_toArray, List.getElem_cons_zero, List.getElem_cons_succ, List.setIfInBounds_toArray, List.set_cons_zero, List.set_cons_succ]
    refine wpAnyL_take (i := 5) (oi := _) (v := .agg (secX at1 P)) rfl (by kernel_rfl) (by kernel_rfl) (by kernel_rfl) (by kernel_rfl) (fun _ _ _ h => h) (yieldsIf_load_mid (by rfl) 95 _ rfl gB 0 rfl (secX at1 P).toList _ (fun w' h => range_allK h.2) Try.underlying95 rfl (by rw [Array.length_toList, HX.out]; exact infoSWs)) S0.out ?_
    try simp only [Act.put, List.getElem_toArray, List.getElem_cons_zero, List.getElem_cons_succ, List.setIfInBounds_toArray, List.set_cons_zero, List.set_cons_succ]
    refine wpAnyL_one (i := 6) (by kernel_rfl) rfl (fun K hK => ?_)
    rw [if_pos (by rfl)]
    refine wp_build1K 59 95 _ rfl (secX at1 P) rfl i0 zSW Try.underlying59 hi hz0 (by rw [HX.out]; exact hz1) (by rw [HX.out]; omega) (by rw [HX.out]; omega) ?_
    have B2 := hide (show Below wd.heap.size wd (wd.alloc (.cells (secX at1 P) 95)) from (Below.refl _ _).alloc (Nat.le_refl _) _)
    have V2 := hide (HVd.out.below B2.out)
    have S2 := hide (And.intro ((V2.out.blk.cell 2).trans (show _ = some (.slice ca CL cc) from rfl)) (S0.out.2.alloc (.cells (secX at1 P) 95)))
    have R2 := hide V2.out.cac
    rw [← HCL.out] at R2
    refine hK.out _ _ (fun _ => S2.out) ?_
    clear hK K
    try simp only [Act.put, List.getElem_toArray, List.getElem_cons_zero, List.getElem_cons_succ, List.setIfInBounds_toArray, List.set_cons_zero, List.set_cons_succ]
    refine wpAnyL_one (i := 7) (by kernel_rfl) rfl (fun K hK => ?_)
    rw [if_pos (by rfl)]
    refine wp_append_own _ (.tmp 30) (.tmp 32) 59 rfl base 95 i0 zSW 129 136 Try.underlying59 hi hz0 hz1 hz2 (by kernel_rfl) (by decide) (.slice ca CL cc) CL _ rfl R2.out ⟨wd.heap.size, 0, none⟩ 1 1 (secX at1 P).toList rfl (by rw [Array.length_toList, HX.out]) (cells_newK wd (secX at1 P) 95) (fun u hu => (Array.all_eq_true_iff_forall_mem.1 (secX_one at1 P)) u (by simpa using hu)) (by unfold maxLen; omega) (by omega) (by simp; omega) ?_
    intro v4 w4 o4 g4 _
    obtain ⟨va4, vc4, rfl⟩ := shape_rowK o4
    have F4 := hide (V2.out.pushC (at1, P) (.slice va4 (CL + 1) vc4) (by rw [← HCL.out]; exact o4) g4 ⟨hat, HPl.out⟩)
    have L4 := hide (show Below base W w4 from (HBd.out.trans (B2.out.mono hbwd)).grown g4 (by simp; omega) (fun r e => (R2.out.lt r e).1))
    have Y4 := hide (show KpY TyQ W w4 from (HYd.out.below B2.out).ownrow R2.out (.inr rfl) g4)
    have S4 := hide (And.intro ((F4.out.2.2.cell 2).trans (show _ = some (.slice ca CL cc) from rfl)) (show Blk w4 gB (secX at1 P) 95 from (g4.block gB (S2.out.2).lt (fun e => by have := (R2.out.lt gB e.symm).2; exact absurd e.symm (HgB.out e))).trans S2.out.2))
    have f4 := F4.out.2.2.frozen 2
    have y4 : w4.cell? ⟨d, 2, none⟩ = some (.slice ca CL cc) := S4.out.1
    clear o4 g4
    refine hK.out _ _ (fun _ => S4.out) ?_
    clear hK K
    try simp only [Act.put, List.getElem_toArray, List.getElem_cons_zero, List.getElem_cons_succ, List.setIfInBounds_toArray, List.set_cons_zero, List.set_cons_succ]
    refine wpAnyL_one (i := 8) (by kernel_rfl) rfl (fun K hK => ?_)
    go_simp
    refine hK.out _ _ (fun _ => S4.out) ?_
    clear hK K
    try simp only [Act.put, List.getElem_toArray, List.getElem_cons_zero, List.getElem_cons_succ, List.setIfInBounds_toArray, List.set_cons_zero, List.set_cons_succ]
    refine wpAnyL_take (i := 9) (oi := _) (v := .pointer (some ⟨d, 2, none⟩)) rfl (by kernel_rfl) (by kernel_rfl) (by kernel_rfl) (by kernel_rfl) (fun _ _ _ h => h) (Or.inl ⟨by rfl, fun w' hw' => by go_simp⟩) S4.out ?_
    try simp only [Act.put, List.getElem_toArray, List.getElem_cons_zero, List.getElem_cons_succ, List.setIfInBounds_toArray, List.set_cons_zero, List.set_cons_succ]
    refine wpAnyL_one (i := 10) (by kernel_rfl) rfl (fun K hK => ?_)
    go_simp
    refine hK.out _ _ (fun h => absurd rfl h) ?_
    clear hK K y4 f4
    try simp only [Act.put, List.getElem_toArray, List.getElem_cons_zero, List.getElem_cons_succ, List.setIfInBounds_toArray, List.set_cons_zero, List.set_cons_succ]
    refine wpAnyL_done (by kernel_rfl) (NoPanic.normal ?_) _
    obtain ⟨w5, hw5⟩ : ∃ w5, w5 = w4.setCell ⟨d, 2, none⟩ (.slice va4 (CL + 1) vc4) := ⟨_, rfl⟩
    have H5 := hide (show Dev w5 base d vf (.slice (some ⟨ge, 0, none⟩) n ec) (.slice va4 (CL + 1) vc4) n F E (C ++ [(at1, P)]) (fuJ fuse 1) off ∧ Below base W w5 ∧ KpY TyQ W w5 ∧ Blk w5 gB (secX at1 P) 95 from by rw [hw5]; exact ⟨F4.out.1, L4.out.setCell (p := ⟨d, 2, none⟩) hd _, Y4.out.setCell F4.out.2.2 (.inl rfl), S4.out.2.other _ _ (by show gB ≠ d; exact HgD.out)⟩)
    have HW5 := hide hw5
    clear hw5 F4 L4 Y4 S4 S0 S2 R2 V2 B2 HVd HBd HYd HWd
    obtain ⟨w6, hw6⟩ : ∃ w6, w6 = w5.drew := ⟨_, rfl⟩
    have b6 : Below w5.heap.size w5 w6 := by rw [hw6]; exact (Below.refl _ _).drew
    have H6 := hide (show Dev w6 base d vf (.slice (some ⟨ge, 0, none⟩) n ec) (.slice va4 (CL + 1) vc4) n F E (C ++ [(at1, P)]) (fuJ fuse 1) off ∧ Below base W w6 ∧ KpY TyQ W w6 ∧ Blk w6 gB (secX at1 P) 95 from ⟨H5.out.1.below b6, by rw [hw6]; exact H5.out.2.1.drew, H5.out.2.2.1.below b6, H5.out.2.2.2.below b6 H5.out.2.2.2.lt⟩)
    have HW6 := hide hw6
    clear hw6 b6 H5
    go_upto_region 7 with fail
    rw [← HW5.out]
    have S6 := hide (And.intro ((H6.out.1.blk.cell 1).trans (show _ = some (.slice (some ⟨ge, 0, none⟩) n ec) from rfl)) H6.out.2.2.2)
    refine wp_region_noPanic ?_
    refine wp_region_heldL (fun w' => w'.cell? ⟨d, 1, none⟩ = some (.slice (some ⟨ge, 0, none⟩) n ec) ∧ Blk w' gB (secX at1 P) 95) 9 (by kernel_rfl) ?_
    rw [← HW6.out]
    refine wpAnyL_take (i := 0) (oi := _) (v := .pointer (some ⟨d, 0, none⟩)) rfl (by kernel_rfl) (by kernel_rfl) (by kernel_rfl) (by kernel_rfl) (fun _ _ _ h => h) (Or.inl ⟨by rfl, fun w' hw' => by go_simp⟩) S6.out ?_
    try simp only [Act.put, List.getElem_toArray, List.getElem_cons_zero, List.getElem_cons_succ, List.setIfInBounds_toArray, List.set_cons_zero, List.set_cons_succ]
    refine wpAnyL_take (i := 1) (oi := _) (v := .pointer (some ⟨d, 0, none⟩)) rfl (by kernel_rfl) (by kernel_rfl) (by kernel_rfl) (by kernel_rfl) (fun _ _ _ h => h) (Or.inl ⟨by rfl, fun w' hw' => by go_simp⟩) S6.out ?_
    try simp only [Act.put, List.getElem_toArray, List.getElem_cons_zero, List.getElem_cons_succ, List.setIfInBounds_toArray, List.set_cons_zero, List.set_cons_succ]
    refine wpAnyL_take (i := 2) (oi := _) (v := .pointer (some ⟨d, 1, none⟩)) rfl (by kernel_rfl) (by kernel_rfl) (by kernel_rfl) (by kernel_rfl) (fun _ _ _ h => h) (Or.inl ⟨by rfl, fun w' hw' => by go_simp⟩) S6.out ?_
    try simp only [Act.put, List.getElem_toArray, List.getElem_cons_zero, List.getElem_cons_succ, List.setIfInBounds_toArray, List.set_cons_zero, List.set_cons_succ]
    refine wpAnyL_take (i := 3) (oi := _) (v := .slice (some ⟨ge, 0, none⟩) n ec) rfl (by kernel_rfl) (by kernel_rfl) (by kernel_rfl) (by kernel_rfl) (fun _ _ _ h => h) (Or.inl ⟨by rfl, fun w' hw' => by have hw2 : w'.cell? ⟨d, 1, none⟩ = some (.slice (some ⟨ge, 0, none⟩) n ec) := hw'.1; go_simp⟩) S6.out ?_
    try simp only [Act.put, List.getElem_toArray, List.getElem_cons_zero, List.getElem_cons_succ, List.setIfInBounds_toArray, List.set_cons_zero, List.set_cons_succ]
    refine wpAnyL_take (i := 4) (oi := _) (v := .pointer (some ⟨gB, 0, none⟩)) rfl (by kernel_rfl) (by kernel_rfl) (by kernel_rfl) (by kernel_rfl) (fun _ _ _ h => h) (Or.inl ⟨by rfl, fun w' hw' => by go_simp⟩) S6.out ?_
    try simp only [Act.put, List.getElem_toArray, List.getElem_cons_zero, List.getElem_cons_succ, List.setIfInBounds_toArray, List.set_cons_zero, List.set_cons_succ]
    refine wpAnyL_take (i := 5) (oi := _) (v := .int .i64 (at1 : Int)) rfl (by kernel_rfl) (by kernel_rfl) (by kernel_rfl) (by kernel_rfl) (fun _ _ _ h => h) (Or.inl ⟨by rfl, fun w' hw' => by have hw2 : w'.cell? ⟨gB, 0, none⟩ = some (.int .i64 (at1 : Int)) := secX_at hw'.2; go_simp⟩) S6.out ?_
    try simp only [Act.put, List.getElem_toArray, List.getElem_cons_zero, List.getElem_cons_succ, List.setIfInBounds_toArray, List.set_cons_zero, List.set_cons_succ]
    refine wpAnyL_take (i := 6) (oi := _) (v := .pointer (some ⟨gB, 1, none⟩)) rfl (by kernel_rfl) (by kernel_rfl) (by kernel_rfl) (by kernel_rfl) (fun _ _ _ h => h) (Or.inl ⟨by rfl, fun w' hw' => by go_simp⟩) S6.out ?_
    try simp only [Act.put, List.getElem_toArray, List.getElem_cons_zero, List.getElem_cons_succ, List.setIfInBounds_toArray, List.set_cons_zero, List.set_cons_succ]
    refine wpAnyL_take (i := 7) (oi := _) (v := .agg (P.map (Value.int .u8)).toArray) rfl (by kernel_rfl) (by kernel_rfl) (by kernel_rfl) (by kernel_rfl) (fun _ _ _ h => h) (yieldsIf_load_mid (by rfl) 76 _ rfl gB 1 rfl (P.map (Value.int .u8)) _ (fun w' h => secX_data h.2) Try.underlying76 rfl (by rw [List.length_map, HPl.out]; exact infoSec)) S6.out ?_
    try simp only [Act.put, List.getElem_toArray, List.getElem_cons_zero, List.getElem_cons_succ, List.setIfInBounds_toArray, List.set_cons_zero, List.set_cons_succ]
    refine wpAnyL_take (i := 8) (oi := _) (v := .pointer (some ⟨ge, at1 * 128, none⟩)) rfl (by kernel_rfl) (by kernel_rfl) (by kernel_rfl) (by kernel_rfl) (fun _ _ _ h => h) (Or.inl ⟨by rfl, fun w' hw' => by go_simp⟩) S6.out ?_
    try simp only [Act.put, List.getElem_toArray, List.getElem_cons_zero, List.getElem_cons_succ, List.setIfInBounds_toArray, List.set_cons_zero, List.set_cons_succ]
    refine wpAnyL_one (i := 9) (by kernel_rfl) rfl (fun K hK => ?_)
    rw [if_pos (by rfl)]
    refine wp_store_mid 76 _ _ rfl ge (at1 * 128) (P.map (Value.int .u8)).toArray rfl rfl (there_row H6.out.1.see (by rw [List.size_toArray, List.length_map, HPl.out]; omega)) (by rw [List.size_toArray, List.length_map, HPl.out]; exact infoSec) (by simp [Value.oneCell']) ?_
    rw [List.toList_toArray]
    refine hK.out _ _ (fun h => absurd rfl h) ?_
    clear hK K
    try simp only [Act.put, List.getElem_toArray, List.getElem_cons_zero, List.getElem_cons_succ, List.setIfInBounds_toArray, List.set_cons_zero, List.set_cons_succ]
    refine wpAnyL_done (by kernel_rfl) (NoPanic.normal ?_) _
    have H7 := hide (show Dev (w6.setCells ge (at1 * 128) (P.map (Value.int .u8))) base d vf (.slice (some ⟨ge, 0, none⟩) n ec) (.slice va4 (CL + 1) vc4) n F (splice E (at1 * 128) P) (C ++ [(at1, P)]) (fuJ fuse 1) off ∧ Below base W (w6.setCells ge (at1 * 128) (P.map (Value.int .u8))) ∧ KpB TyQ (fun b => (Value.slice (some ⟨ge, 0, none⟩) n ec).ownBlock = some b) W (w6.setCells ge (at1 * 128) (P.map (Value.int .u8))) from ⟨H6.out.1.setSeen at1 P HPl.out hat, below_cells (H6.out.1.see.lt ge rfl).1 _ _ H6.out.2.1, (H6.out.2.2.1.toB _).trans (KpB.grown (cells_grownK _ _ _) rfl)⟩)
    clear H6 S6 HW6
    go_wp2
    go_end0
    first | exact ⟨_, rfl, H7.out.1, H7.out.2.1, H7.out.2.2⟩ | exact ⟨⟨_, H7.out.1⟩, H7.out.2.1, H7.out.2.2⟩ | exact ⟨rfl, ⟨_, H7.out.1⟩, H7.out.2.1, H7.out.2.2⟩
  · have hn : fuse < 0 := by omega
    obtain ⟨wq, hwq⟩ : ∃ wq, wq = W1 := ⟨_, rfl⟩
    have hfj : fuJ fuse 1 = fuse := by unfold fuJ; rw [if_pos hn]
    have HQ := hide (show Dev wq base d vf (.slice (some ⟨ge, 0, none⟩) n ec) (.slice ca CL cc) n F E C (fuJ fuse 1) off ∧ Below base W wq ∧ KpY TyQ W wq ∧ Blk wq gB (secX at1 P) 95 from by
      rw [hwq, hfj]
      exact V1.out)
    have HWQ := hide hwq
    clear hwq hfj V1
    go_upto_region 6 with fail
    rw [← HWQ.out]
    clear c3 f3
    obtain ⟨wd, hwd⟩ : ∃ wd, wd = wq.drew := ⟨_, rfl⟩
    have bdr : Below wq.heap.size wq wd := by rw [hwd]; exact (Below.refl _ _).drew
    have HVd := hide (HQ.out.1.below bdr)
    have HBd := hide (show Below base W wd by rw [hwd]; exact HQ.out.2.1.drew)
    have HYd := hide (HQ.out.2.2.1.below bdr)
    have hbwd : base ≤ wd.heap.size := Nat.le_trans hbW HBd.out.size
    have S0 := hide (And.intro ((HVd.out.blk.cell 2).trans (show _ = some (.slice ca CL cc) from rfl)) (HQ.out.2.2.2.below bdr HQ.out.2.2.2.lt))
    have HWd := hide hwd
    clear hwd bdr
    refine wp_region_noPanic ?_
    refine wp_region_heldL (fun w' => w'.cell? ⟨d, 2, none⟩ = some (.slice ca CL cc) ∧ Blk w' gB (secX at1 P) 95) 10 (by kernel_rfl) ?_
    rw [← HWd.out]
    refine wpAnyL_take (i := 0) (oi := _) (v := .pointer (some ⟨d, 0, none⟩)) rfl (by kernel_rfl) (by kernel_rfl) (by kernel_rfl) (by kernel_rfl) (fun _ _ _ h => h) (Or.inl ⟨by rfl, fun w' hw' => by go_simp⟩) S0.out ?_
    try simp only [Act.put, List.getElem_toArray, List.getElem_cons_zero, List.getElem_cons_succ, List.setIfInBounds_toArray, List.set_cons_zero, List.set_cons_succ]
    refine wpAnyL_take (i := 1) (oi := _) (v := .pointer (some ⟨d, 0, none⟩)) rfl (by kernel_rfl) (by kernel_rfl) (by kernel_rfl) (by kernel_rfl) (fun _ _ _ h => h) (Or.inl ⟨by rfl, fun w' hw' => by go_simp⟩) S0.out ?_
    try simp only [Act.put, List.getElem_toArray, List.getElem_cons_zero, List.getElem_cons_succ, List.setIfInBounds_toArray, List.set_cons_zero, List.set_cons_succ]
    refine wpAnyL_take (i := 2) (oi := _) (v := .pointer (some ⟨d, 0, none⟩)) rfl (by kernel_rfl) (by kernel_rfl) (by kernel_rfl) (by kernel_rfl) (fun _ _ _ h => h) (Or.inl ⟨by rfl, fun w' hw' => by go_simp⟩) S0.out ?_
    try simp only [Act.put, List.getElem_toArray, List.getElem_cons_zero, List.getElem_cons_succ, List.setIfInBounds_toArray, List.set_cons_zero, List.set_cons_succ]
    refine wpAnyL_take (i := 3) (oi := _) (v := .pointer (some ⟨d, 2, none⟩)) rfl (by kernel_rfl) (by kernel_rfl) (by kernel_rfl) (by kernel_rfl) (fun _ _ _ h => h) (Or.inl ⟨by rfl, fun w' hw' => by go_simp⟩) S0.out ?_
    try simp only [Act.put, List.getElem_toArray, List.getElem_cons_zero, List.getElem_cons_succ, List.setIfInBounds_toArray, List.set_cons_zero, List.set_cons_succ]
    refine wpAnyL_take (i := 4) (oi := _) (v := .slice ca CL cc) rfl (by kernel_rfl) (by kernel_rfl) (by kernel_rfl) (by kernel_rfl) (fun _ _ _ h => h) (Or.inl ⟨by rfl, fun w' hw' => by have hw2 : w'.cell? ⟨d, 2, none⟩ = some (.slice ca CL cc) := hw'.1; go_simp⟩) S0.out ?_
    try simp only [Act.put, List.getElem_toArray, List.getElem_cons_zero, List.getElem_cons_succ, List.setIfInBounds_toArray, List.set_cons_zero, List.set_cons_succ]
    refine wpAnyL_take (i := 5) (oi := _) (v := .agg (secX at1 P)) rfl (by kernel_rfl) (by kernel_rfl) (by kernel_rfl) (by kernel_rfl) (fun _ _ _ h => h) (yieldsIf_load_mid (by rfl) 95 _ rfl gB 0 rfl (secX at1 P).toList _ (fun w' h => range_allK h.2) Try.underlying95 rfl (by rw [Array.length_toList, HX.out]; exact infoSWs)) S0.out ?_
    try simp only [Act.put, List.getElem_toArray, List.getElem_cons_zero, List.getElem_cons_succ, List.setIfInBounds_toArray, List.set_cons_zero, List.set_cons_succ]
    refine wpAnyL_one (i := 6) (by kernel_rfl) rfl (fun K hK => ?_)
    rw [if_pos (by rfl)]
    refine wp_build1K 59 95 _ rfl (secX at1 P) rfl i0 zSW Try.underlying59 hi hz0 (by rw [HX.out]; exact hz1) (by rw [HX.out]; omega) (by rw [HX.out]; omega) ?_
    have B2 := hide (show Below wd.heap.size wd (wd.alloc (.cells (secX at1 P) 95)) from (Below.refl _ _).alloc (Nat.le_refl _) _)
    have V2 := hide (HVd.out.below B2.out)
    have S2 := hide (And.intro ((V2.out.blk.cell 2).trans (show _ = some (.slice ca CL cc) from rfl)) (S0.out.2.alloc (.cells (secX at1 P) 95)))
    have R2 := hide V2.out.cac
    rw [← HCL.out] at R2
    refine hK.out _ _ (fun _ => S2.out) ?_
    clear hK K
    try simp only [Act.put, List.getElem_toArray, List.getElem_cons_zero, List.getElem_cons_succ, List.setIfInBounds_toArray, List.set_cons_zero, List.set_cons_succ]
    refine wpAnyL_one (i := 7) (by kernel_rfl) rfl (fun K hK => ?_)
    rw [if_pos (by rfl)]
    refine wp_append_own _ (.tmp 30) (.tmp 32) 59 rfl base 95 i0 zSW 129 136 Try.underlying59 hi hz0 hz1 hz2 (by kernel_rfl) (by decide) (.slice ca CL cc) CL _ rfl R2.out ⟨wd.heap.size, 0, none⟩ 1 1 (secX at1 P).toList rfl (by rw [Array.length_toList, HX.out]) (cells_newK wd (secX at1 P) 95) (fun u hu => (Array.all_eq_true_iff_forall_mem.1 (secX_one at1 P)) u (by simpa using hu)) (by unfold maxLen; omega) (by omega) (by simp; omega) ?_
    intro v4 w4 o4 g4 _
    obtain ⟨va4, vc4, rfl⟩ := shape_rowK o4
    have F4 := hide (V2.out.pushC (at1, P) (.slice va4 (CL + 1) vc4) (by rw [← HCL.out]; exact o4) g4 ⟨hat, HPl.out⟩)
    have L4 := hide (show Below base W w4 from (HBd.out.trans (B2.out.mono hbwd)).grown g4 (by simp; omega) (fun r e => (R2.out.lt r e).1))
    have Y4 := hide (show KpY TyQ W w4 from (HYd.out.below B2.out).ownrow R2.out (.inr rfl) g4)
    have S4 := hide (And.intro ((F4.out.2.2.cell 2).trans (show _ = some (.slice ca CL cc) from rfl)) (show Blk w4 gB (secX at1 P) 95 from (g4.block gB (S2.out.2).lt (fun e => by have := (R2.out.lt gB e.symm).2; exact absurd e.symm (HgB.out e))).trans S2.out.2))
    have f4 := F4.out.2.2.frozen 2
    have y4 : w4.cell? ⟨d, 2, none⟩ = some (.slice ca CL cc) := S4.out.1
    clear o4 g4
    refine hK.out _ _ (fun _ => S4.out) ?_
    clear hK K
    try simp only [Act.put, List.getElem_toArray, List.getElem_cons_zero, List.getElem_cons_succ, List.setIfInBounds_toArray, List.set_cons_zero, List.set_cons_succ]
    refine wpAnyL_one (i := 8) (by kernel_rfl) rfl (fun K hK => ?_)
    go_simp
    refine hK.out _ _ (fun _ => S4.out) ?_
    clear hK K
    try simp only [Act.put, List.getElem_toArray, List.getElem_cons_zero, List.getElem_cons_succ, List.setIfInBounds_toArray, List.set_cons_zero, List.set_cons_succ]
    refine wpAnyL_take (i := 9) (oi := _) (v := .pointer (some ⟨d, 2, none⟩)) rfl (by kernel_rfl) (by kernel_rfl) (by kernel_rfl) (by kernel_rfl) (fun _ _ _ h => h) (Or.inl ⟨by rfl, fun w' hw' => by go_simp⟩) S4.out ?_
    try simp only [Act.put, List.getElem_toArray, List.getElem_cons_zero, List.getElem_cons_succ, List.setIfInBounds_toArray, List.set_cons_zero, List.set_cons_succ]
    refine wpAnyL_one (i := 10) (by kernel_rfl) rfl (fun K hK => ?_)
    go_simp
    refine hK.out _ _ (fun h => absurd rfl h) ?_
    clear hK K y4 f4
    try simp only [Act.put, List.getElem_toArray, List.getElem_cons_zero, List.getElem_cons_succ, List.setIfInBounds_toArray, List.set_cons_zero, List.set_cons_succ]
    refine wpAnyL_done (by kernel_rfl) (NoPanic.normal ?_) _
    obtain ⟨w5, hw5⟩ : ∃ w5, w5 = w4.setCell ⟨d, 2, none⟩ (.slice va4 (CL + 1) vc4) := ⟨_, rfl⟩
    have H5 := hide (show Dev w5 base d vf (.slice (some ⟨ge, 0, none⟩) n ec) (.slice va4 (CL + 1) vc4) n F E (C ++ [(at1, P)]) (fuJ fuse 1) off ∧ Below base W w5 ∧ KpY TyQ W w5 ∧ Blk w5 gB (secX at1 P) 95 from by rw [hw5]; exact ⟨F4.out.1, L4.out.setCell (p := ⟨d, 2, none⟩) hd _, Y4.out.setCell F4.out.2.2 (.inl rfl), S4.out.2.other _ _ (by show gB ≠ d; exact HgD.out)⟩)
    have HW5 := hide hw5
    clear hw5 F4 L4 Y4 S4 S0 S2 R2 V2 B2 HVd HBd HYd HWd
    obtain ⟨w6, hw6⟩ : ∃ w6, w6 = w5.drew := ⟨_, rfl⟩
    have b6 : Below w5.heap.size w5 w6 := by rw [hw6]; exact (Below.refl _ _).drew
    have H6 := hide (show Dev w6 base d vf (.slice (some ⟨ge, 0, none⟩) n ec) (.slice va4 (CL + 1) vc4) n F E (C ++ [(at1, P)]) (fuJ fuse 1) off ∧ Below base W w6 ∧ KpY TyQ W w6 ∧ Blk w6 gB (secX at1 P) 95 from ⟨H5.out.1.below b6, by rw [hw6]; exact H5.out.2.1.drew, H5.out.2.2.1.below b6, H5.out.2.2.2.below b6 H5.out.2.2.2.lt⟩)
    have HW6 := hide hw6
    clear hw6 b6 H5
    go_upto_region 7 with fail
    rw [← HW5.out]
    have S6 := hide (And.intro ((H6.out.1.blk.cell 1).trans (show _ = some (.slice (some ⟨ge, 0, none⟩) n ec) from rfl)) H6.out.2.2.2)
    refine wp_region_noPanic ?_
    refine wp_region_heldL (fun w' => w'.cell? ⟨d, 1, none⟩ = some (.slice (some ⟨ge, 0, none⟩) n ec) ∧ Blk w' gB (secX at1 P) 95) 9 (by kernel_rfl) ?_
    rw [← HW6.out]
    refine wpAnyL_take (i := 0) (oi := _) (v := .pointer (some ⟨d, 0, none⟩)) rfl (by kernel_rfl) (by kernel_rfl) (by kernel_rfl) (by kernel_rfl) (fun _ _ _ h => h) (Or.inl ⟨by rfl, fun w' hw' => by go_simp⟩) S6.out ?_
    try simp only [Act.put, List.getElem_toArray, List.getElem_cons_zero, List.getElem_cons_succ, List.setIfInBounds_toArray, List.set_cons_zero, List.set_cons_succ]
    refine wpAnyL_take (i := 1) (oi := _) (v := .pointer (some ⟨d, 0, none⟩)) rfl (by kernel_rfl) (by kernel_rfl) (by kernel_rfl) (by kernel_rfl) (fun _ _ _ h => h) (Or.inl ⟨by rfl, fun w' hw' => by go_simp⟩) S6.out ?_
    try simp only [Act.put, List.getElem_toArray, List.getElem_cons_zero, List.getElem_cons_succ, List.setIfInBounds_toArray, List.set_cons_zero, List.set_cons_succ]
    refine wpAnyL_take (i := 2) (oi := _) (v := .pointer (some ⟨d, 1, none⟩)) rfl (by kernel_rfl) (by kernel_rfl) (by kernel_rfl) (by kernel_rfl) (fun _ _ _ h => h) (Or.inl ⟨by rfl, fun w' hw' => by go_simp⟩) S6.out ?_
    try simp only [Act.put, List.getElem_toArray, List.getElem_cons_zero, List.getElem_cons_succ, List.setIfInBounds_toArray, List.set_cons_zero, List.set_cons_succ]
    refine wpAnyL_take (i := 3) (oi := _) (v := .slice (some ⟨ge, 0, none⟩) n ec) rfl (by kernel_rfl) (by kernel_rfl) (by kernel_rfl) (by kernel_rfl) (fun _ _ _ h => h) (Or.inl ⟨by rfl, fun w' hw' => by have hw2 : w'.cell? ⟨d, 1, none⟩ = some (.slice (some ⟨ge, 0, none⟩) n ec) := hw'.1; go_simp⟩) S6.out ?_
    try simp only [Act.put, List.getElem_toArray, List.getElem_cons_zero, List.getElem_cons_succ, List.setIfInBounds_toArray, List.set_cons_zero, List.set_cons_succ]
    refine wpAnyL_take (i := 4) (oi := _) (v := .pointer (some ⟨gB, 0, none⟩)) rfl (by kernel_rfl) (by kernel_rfl) (by kernel_rfl) (by kernel_rfl) (fun _ _ _ h => h) (Or.inl ⟨by rfl, fun w' hw' => by go_simp⟩) S6.out ?_
    try simp only [Act.put, List.getElem_toArray, List.getElem_cons_zero, List.getElem_cons_succ, List.setIfInBounds_toArray, List.set_cons_zero, List.set_cons_succ]
    refine wpAnyL_take (i := 5) (oi := _) (v := .int .i64 (at1 : Int)) rfl (by kernel_rfl) (by kernel_rfl) (by kernel_rfl) (by kernel_rfl) (fun _ _ _ h => h) (Or.inl ⟨by rfl, fun w' hw' => by have hw2 : w'.cell? ⟨gB, 0, none⟩ = some (.int .i64 (at1 : Int)) := secX_at hw'.2; go_simp⟩) S6.out ?_
    try simp only [Act.put, List.getElem_toArray, List.getElem_cons_zero, List.getElem_cons_succ, List.setIfInBounds_toArray, List.set_cons_zero, List.set_cons_succ]
    refine wpAnyL_take (i := 6) (oi := _) (v := .pointer (some ⟨gB, 1, none⟩)) rfl (by kernel_rfl) (by kernel_rfl) (by kernel_rfl) (by kernel_rfl) (fun _ _ _ h => h) (Or.inl ⟨by rfl, fun w' hw' => by go_simp⟩) S6.out ?_
    try simp only [Act.put, List.getElem_toArray, List.getElem_cons_zero, List.getElem_cons_succ, List.setIfInBounds_toArray, List.set_cons_zero, List.set_cons_succ]
    refine wpAnyL_take (i := 7) (oi := _) (v := .agg (P.map (Value.int .u8)).toArray) rfl (by kernel_rfl) (by kernel_rfl) (by kernel_rfl) (by kernel_rfl) (fun _ _ _ h => h) (yieldsIf_load_mid (by rfl) 76 _ rfl gB 1 rfl (P.map (Value.int .u8)) _ (fun w' h => secX_data h.2) Try.underlying76 rfl (by rw [List.length_map, HPl.out]; exact infoSec)) S6.out ?_
    try simp only [Act.put, List.getElem_toArray, List.getElem_cons_zero, List.getElem_cons_succ, List.setIfInBounds_toArray, List.set_cons_zero, List.set_cons_succ]
    refine wpAnyL_take (i := 8) (oi := _) (v := .pointer (some ⟨ge, at1 * 128, none⟩)) rfl (by kernel_rfl) (by kernel_rfl) (by kernel_rfl) (by kernel_rfl) (fun _ _ _ h => h) (Or.inl ⟨by rfl, fun w' hw' => by go_simp⟩) S6.out ?_
    try simp only [Act.put, List.getElem_toArray, List.getElem_cons_zero, List.getElem_cons_succ, List.setIfInBounds_toArray, List.set_cons_zero, List.set_cons_succ]
    refine wpAnyL_one (i := 9) (by kernel_rfl) rfl (fun K hK => ?_)
    rw [if_pos (by rfl)]
    refine wp_store_mid 76 _ _ rfl ge (at1 * 128) (P.map (Value.int .u8)).toArray rfl rfl (there_row H6.out.1.see (by rw [List.size_toArray, List.length_map, HPl.out]; omega)) (by rw [List.size_toArray, List.length_map, HPl.out]; exact infoSec) (by simp [Value.oneCell']) ?_
    rw [List.toList_toArray]
    refine hK.out _ _ (fun h => absurd rfl h) ?_
    clear hK K
    try simp only [Act.put, List.getElem_toArray, List.getElem_cons_zero, List.getElem_cons_succ, List.setIfInBounds_toArray, List.set_cons_zero, List.set_cons_succ]
    refine wpAnyL_done (by kernel_rfl) (NoPanic.normal ?_) _
    have H7 := hide (show Dev (w6.setCells ge (at1 * 128) (P.map (Value.int .u8))) base d vf (.slice (some ⟨ge, 0, none⟩) n ec) (.slice va4 (CL + 1) vc4) n F (splice E (at1 * 128) P) (C ++ [(at1, P)]) (fuJ fuse 1) off ∧ Below base W (w6.setCells ge (at1 * 128) (P.map (Value.int .u8))) ∧ KpB TyQ (fun b => (Value.slice (some ⟨ge, 0, none⟩) n ec).ownBlock = some b) W (w6.setCells ge (at1 * 128) (P.map (Value.int .u8))) from ⟨H6.out.1.setSeen at1 P HPl.out hat, below_cells (H6.out.1.see.lt ge rfl).1 _ _ H6.out.2.1, (H6.out.2.2.1.toB _).trans (KpB.grown (cells_grownK _ _ _) rfl)⟩)
    clear H6 S6 HW6
    go_wp2
    go_end0
    first | exact ⟨_, rfl, H7.out.1, H7.out.2.1, H7.out.2.2⟩ | exact ⟨⟨_, H7.out.1⟩, H7.out.2.1, H7.out.2.2⟩ | exact ⟨rfl, ⟨_, H7.out.1⟩, H7.out.2.1, H7.out.2.2⟩
end
end Go.Proofs.Ythghibopnnjboaa
