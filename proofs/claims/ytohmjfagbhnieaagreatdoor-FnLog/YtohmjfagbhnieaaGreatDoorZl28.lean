/- An operation drawn over the new state: the head of L08Op, whose one statement draws its order. -/
import Derived.Test.YtohmjfagbhnieaaGreatDoorZl27
import Derived.Deep.DeepCutAuto
import Derived.Deep.CutBlock
import Derived.Deep.RegionWith
namespace Go.Proofs.YtohmjfagbhnieaaGreatDoor
set_option linter.unusedVariables false
set_option linter.unusedSimpArgs false
open Go.RowKit

def sndC : Code → Code
  | .seq _ b => b
  | c => c
def fstC : Code → Code
  | .seq a _ => a
  | c => c
theorem wrap1 (z : Int) (h0 : 0 ≤ z) (h1 : z < 100) : IntKind.i64.wrap (1 + z) = 1 + z := by rw [IntKind.wrap_i64]; omega
set_option maxRecDepth 100000 in
set_option maxHeartbeats 16000000 in
theorem op_head {w0 W : World} {b D : Nat} {cv : Value} {cs : List Int} (h : OpR w0 W (((W.alloc (.cells #[.int .i64 1, .slice (some ⟨D, 0, none⟩) 2 2] 35)).alloc (.cells zeroOp 30)).drew) b D cv cs) (Q' : Exit → Act → World → Prop) (K' : Act → World → Prop)
    (hQ : ∀ (g : Nat) (K : Int) (wx : World) (u8 u9 u10 u11 u12 u13 u14 : Value), OpS w0 W wx b D g cv cs K → K' ⟨#[.pointer (some ⟨b, 0, none⟩), .agg #[.int .i64 1, .slice (some ⟨D, 0, none⟩) 2 2], .int .i64 9, undef, .pointer (some ⟨W.heap.size, 0, none⟩), undef, .pointer (some ⟨W.heap.size + 1, 0, none⟩), .pointer (some ⟨g, 0, none⟩), u8, u9, u10, u11, u12, u13, u14, undef, undef, undef, undef, undef, undef, undef, undef, undef, undef, undef, undef, undef, undef, undef, undef, undef, undef, undef, undef, undef, undef, undef, undef, undef, undef, undef, undef, undef, undef, undef, undef, undef, undef, undef, undef, undef, undef, undef, undef, undef, undef, undef, undef, undef, undef, undef, undef, undef, undef, undef, undef, undef, undef, undef, undef, undef, undef, undef, undef, undef, undef, undef, undef, undef, undef, undef, undef, undef, undef, undef, undef, undef, undef, undef, undef, undef, undef, undef, undef, undef, undef, undef, undef, undef, undef, undef, undef, undef, undef, undef, undef, undef, undef, undef, undef, undef, undef, undef, undef, undef, undef, undef, undef, undef, undef, undef, undef, undef, undef, undef, undef, undef, undef, undef, undef, undef, undef, undef, undef, undef, undef, undef, undef, undef, undef, undef, undef, undef, undef, undef, undef, undef, undef, undef, undef, undef, undef, undef, undef, undef, undef, undef, undef, undef, undef], []⟩ wx) :
    Code.wp Tryz.prog (fstC (sndC (Tryz.f8.body.getD .skip))) (Exit.then K' Q') ⟨#[.pointer (some ⟨b, 0, none⟩), .agg #[.int .i64 1, .slice (some ⟨D, 0, none⟩) 2 2], .int .i64 9, undef, .pointer (some ⟨W.heap.size, 0, none⟩), undef, .pointer (some ⟨W.heap.size + 1, 0, none⟩), undef, undef, undef, undef, undef, undef, undef, undef, undef, undef, undef, undef, undef, undef, undef, undef, undef, undef, undef, undef, undef, undef, undef, undef, undef, undef, undef, undef, undef, undef, undef, undef, undef, undef, undef, undef, undef, undef, undef, undef, undef, undef, undef, undef, undef, undef, undef, undef, undef, undef, undef, undef, undef, undef, undef, undef, undef, undef, undef, undef, undef, undef, undef, undef, undef, undef, undef, undef, undef, undef, undef, undef, undef, undef, undef, undef, undef, undef, undef, undef, undef, undef, undef, undef, undef, undef, undef, undef, undef, undef, undef, undef, undef, undef, undef, undef, undef, undef, undef, undef, undef, undef, undef, undef, undef, undef, undef, undef, undef, undef, undef, undef, undef, undef, undef, undef, undef, undef, undef, undef, undef, undef, undef, undef, undef, undef, undef, undef, undef, undef, undef, undef, undef, undef, undef, undef, undef, undef, undef, undef, undef, undef, undef, undef, undef, undef, undef, undef, undef, undef, undef, undef, undef, undef], []⟩ ((W.alloc (.cells #[.int .i64 1, .slice (some ⟨D, 0, none⟩) 2 2] 35)).alloc (.cells zeroOp 30)) := by
  have R0 := hide h
  have HQ := hide hQ
  clear h hQ
  conv => arg 2; whnf
  refine wp_region_noPanic ?_
  refine wp_region_held_drew (S := fun w' => OpR w0 W w' b D cv cs) (by kernel_rfl) R0.out (fun hH => ?_)
  refine wpAnyH_take (i := 0) (oi := _) (v := .pointer (some ⟨b, 0, none⟩)) rfl (by kernel_rfl) (by kernel_rfl) (by kernel_rfl) (fun _ _ _ h => h) (Or.inl ⟨by rfl, fun w' hw' => by go_simp⟩) hH ?_
  try simp only [Act.put, List.getElem_toArray, List.getElem_cons_zero, List.getElem_cons_succ, List.setIfInBounds_toArray, List.set_cons_zero, List.set_cons_succ]
  refine wpAnyH_take (i := 3) (oi := _) (v := .pointer (some ⟨b, 0, none⟩)) rfl (by kernel_rfl) (by kernel_rfl) (by kernel_rfl) (fun _ _ _ h => h) (Or.inl ⟨by rfl, fun w' hw' => by go_simp⟩) hH ?_
  try simp only [Act.put, List.getElem_toArray, List.getElem_cons_zero, List.getElem_cons_succ, List.setIfInBounds_toArray, List.set_cons_zero, List.set_cons_succ]
  refine wpAnyH_take (i := 4) (oi := _) (v := .agg #[.int .i64 1, .slice (some ⟨D, 0, none⟩) 2 2]) rfl (by kernel_rfl) (by kernel_rfl) (by kernel_rfl) (fun _ _ _ h => h) (Or.inl ⟨by rfl, fun w' hw' => by have c0 := (hw'.st.cell 0).trans (show _ = some (.int .i64 1) from rfl); have c1 := (hw'.st.cell 1).trans (show _ = some (.slice (some ⟨D, 0, none⟩) 2 2) from rfl); clear hw'; go_simp⟩) hH ?_
  try simp only [Act.put, List.getElem_toArray, List.getElem_cons_zero, List.getElem_cons_succ, List.setIfInBounds_toArray, List.set_cons_zero, List.set_cons_succ]
  refine wpAnyH_ready (rs := [1, 7]) (by kernel_rfl) (by simp) ?_
  refine AllReadyH.cons (o := _) rfl (fun K hK => ?_) (AllReadyH.cons (o := _) rfl (fun K hK => ?_) AllReadyH.nil)
  · skip
    go_simp
    refine (R0.out.dn.sc.N 17 (by omega) (by omega)).mono ?_
    rintro e w1 ⟨z, rfl, hz0, hz1, s1, d1⟩
    have R1 := hide (R0.out.draw s1 d1)
    refine hK.out _ _ R1.out (fun hH1 => ?_)
    clear hK K s1 d1
    try simp only [Act.put, List.getElem_toArray, List.getElem_cons_zero, List.getElem_cons_succ, List.setIfInBounds_toArray, List.set_cons_zero, List.set_cons_succ]
    refine wpAnyH_take (i := 2) (oi := _) (v := .int .i64 (1 + z)) rfl (by kernel_rfl) (by kernel_rfl) (by kernel_rfl) (fun _ _ _ h => h) (Or.inl ⟨by rfl, fun w' hw' => by have hzw := wrap1 z hz0 (by omega); go_simp⟩) hH1 ?_
    try simp only [Act.put, List.getElem_toArray, List.getElem_cons_zero, List.getElem_cons_succ, List.setIfInBounds_toArray, List.set_cons_zero, List.set_cons_succ]
    refine wpAnyH_ready (rs := [5, 7]) (by kernel_rfl) (by simp) ?_
    refine AllReadyH.cons (o := _) rfl (fun K hK => ?_) (AllReadyH.cons (o := _) rfl (fun K hK => ?_) AllReadyH.nil)
    · skip
      go_simp
      refine (path_drawn R1.out.dn.sc D R1.out.nd).mono ?_
      rintro e w2 ⟨sp, rfl, hp, s2, d2⟩
      have R2 := hide (R1.out.draw s2 d2)
      refine hK.out _ _ R2.out (fun hH2 => ?_)
      clear hK K s2 d2
      try simp only [Act.put, List.getElem_toArray, List.getElem_cons_zero, List.getElem_cons_succ, List.setIfInBounds_toArray, List.set_cons_zero, List.set_cons_succ]
      refine wpAnyH_take (i := 6) (oi := _) (v := .agg (opC (1 + z) 0 0 0 0 sp ⟨#[]⟩ (.slice none 0 0))) rfl (by kernel_rfl) (by kernel_rfl) (by kernel_rfl) (fun _ _ _ h => h) (Or.inl ⟨by rfl, fun w' hw' => by go_simp <;> rfl⟩) hH2 ?_
      try simp only [Act.put, List.getElem_toArray, List.getElem_cons_zero, List.getElem_cons_succ, List.setIfInBounds_toArray, List.set_cons_zero, List.set_cons_succ]
      refine wpAnyH_ready (rs := [7]) (by kernel_rfl) (by simp) ?_
      refine AllReadyH.cons (o := _) rfl (fun K hK => ?_) AllReadyH.nil
      have R3 := hide (R2.out.fresh (show Below w2.heap.size w2 (w2.alloc (.cells zeroOp 30)) from (Below.refl _ _).alloc (Nat.le_refl _) _))
      have K3 := hide (Blk.new w2 zeroOp 30)
      have G0 := hide (show W.heap.size + 2 ≤ w2.heap.size from R2.out.sz)
      go_simp
      refine hK.out _ _ R3.out (fun hH3 => ?_)
      clear hK K
      try simp only [Act.put, List.getElem_toArray, List.getElem_cons_zero, List.getElem_cons_succ, List.setIfInBounds_toArray, List.set_cons_zero, List.set_cons_succ]
      refine wpAnyH_ready (rs := [8]) (by kernel_rfl) (by simp) ?_
      refine AllReadyH.cons (o := _) rfl (fun K hK => ?_) AllReadyH.nil
      have HO := hide (R3.out.ops K3.out G0.out (1 + z) (by omega) (by omega) sp hp)
      refine wp_store_row 30 _ _ rfl w2.heap.size (opC (1 + z) 0 0 0 0 sp ⟨#[]⟩ (.slice none 0 0)) rfl rfl 30 _ K3.out infoO8 rfl (opC_one1 _ _ _ _ _ _ _ _ _ _) ?_
      refine hK.out _ _ ⟨HO.out.dn, HO.out.st, HO.out.rs, HO.out.nd, HO.out.hD, HO.out.ne⟩ (fun hH => ?_)
      clear hK K
      try simp only [Act.put, List.getElem_toArray, List.getElem_cons_zero, List.getElem_cons_succ, List.setIfInBounds_toArray, List.set_cons_zero, List.set_cons_succ]
      refine wpAnyH_done (by kernel_rfl) (NoPanic.normal ?_) _
      exact HQ.out _ _ _ _ _ _ _ _ _ _ HO.out
    · skip
      have R4 := hide (R1.out.fresh (show Below w1.heap.size w1 (w1.alloc (.cells zeroOp 30)) from (Below.refl _ _).alloc (Nat.le_refl _) _))
      have K4 := hide (Blk.new w1 zeroOp 30)
      have G0 := hide (show W.heap.size + 2 ≤ w1.heap.size from R1.out.sz)
      go_simp
      refine hK.out _ _ R4.out (fun hH4 => ?_)
      clear hK K
      try simp only [Act.put, List.getElem_toArray, List.getElem_cons_zero, List.getElem_cons_succ, List.setIfInBounds_toArray, List.set_cons_zero, List.set_cons_succ]
      refine wpAnyH_ready (rs := [5]) (by kernel_rfl) (by simp) ?_
      refine AllReadyH.cons (o := _) rfl (fun K hK => ?_) AllReadyH.nil
      go_simp
      refine (path_drawn R4.out.dn.sc D R4.out.nd).mono ?_
      rintro e w5 ⟨sp, rfl, hp, s5, d5⟩
      have R5 := hide (R4.out.draw s5 d5)
      have K5 := hide (K4.out.drawn d5 (by have := R4.out.dn.lt; have := G0.out; omega))
      refine hK.out _ _ R5.out (fun hH5 => ?_)
      clear hK K s5 d5
      try simp only [Act.put, List.getElem_toArray, List.getElem_cons_zero, List.getElem_cons_succ, List.setIfInBounds_toArray, List.set_cons_zero, List.set_cons_succ]
      refine wpAnyH_take (i := 6) (oi := _) (v := .agg (opC (1 + z) 0 0 0 0 sp ⟨#[]⟩ (.slice none 0 0))) rfl (by kernel_rfl) (by kernel_rfl) (by kernel_rfl) (fun _ _ _ h => h) (Or.inl ⟨by rfl, fun w' hw' => by go_simp <;> rfl⟩) hH5 ?_
      try simp only [Act.put, List.getElem_toArray, List.getElem_cons_zero, List.getElem_cons_succ, List.setIfInBounds_toArray, List.set_cons_zero, List.set_cons_succ]
      refine wpAnyH_ready (rs := [8]) (by kernel_rfl) (by simp) ?_
      refine AllReadyH.cons (o := _) rfl (fun K hK => ?_) AllReadyH.nil
      have HO := hide (R5.out.ops K5.out G0.out (1 + z) (by omega) (by omega) sp hp)
      refine wp_store_row 30 _ _ rfl w1.heap.size (opC (1 + z) 0 0 0 0 sp ⟨#[]⟩ (.slice none 0 0)) rfl rfl 30 _ K5.out infoO8 rfl (opC_one1 _ _ _ _ _ _ _ _ _ _) ?_
      refine hK.out _ _ ⟨HO.out.dn, HO.out.st, HO.out.rs, HO.out.nd, HO.out.hD, HO.out.ne⟩ (fun hH => ?_)
      clear hK K
      try simp only [Act.put, List.getElem_toArray, List.getElem_cons_zero, List.getElem_cons_succ, List.setIfInBounds_toArray, List.set_cons_zero, List.set_cons_succ]
      refine wpAnyH_done (by kernel_rfl) (NoPanic.normal ?_) _
      exact HQ.out _ _ _ _ _ _ _ _ _ _ HO.out
  · skip
    have R6 := hide (R0.out.fresh (show Below (((W.alloc (.cells #[.int .i64 1, .slice (some ⟨D, 0, none⟩) 2 2] 35)).alloc (.cells zeroOp 30)).drew).heap.size (((W.alloc (.cells #[.int .i64 1, .slice (some ⟨D, 0, none⟩) 2 2] 35)).alloc (.cells zeroOp 30)).drew) ((((W.alloc (.cells #[.int .i64 1, .slice (some ⟨D, 0, none⟩) 2 2] 35)).alloc (.cells zeroOp 30)).drew).alloc (.cells zeroOp 30)) from (Below.refl _ _).alloc (Nat.le_refl _) _))
    have K6 := hide (show Blk ((((W.alloc (.cells #[.int .i64 1, .slice (some ⟨D, 0, none⟩) 2 2] 35)).alloc (.cells zeroOp 30)).drew).alloc (.cells zeroOp 30)) (W.heap.size + 1 + 1) zeroOp 30 from by have h := Blk.new (((W.alloc (.cells #[.int .i64 1, .slice (some ⟨D, 0, none⟩) 2 2] 35)).alloc (.cells zeroOp 30)).drew) zeroOp 30; have e : (((W.alloc (.cells #[.int .i64 1, .slice (some ⟨D, 0, none⟩) 2 2] 35)).alloc (.cells zeroOp 30)).drew).heap.size = W.heap.size + 1 + 1 := (by simp); rw [e] at h; exact h)
    have G0 := hide (show W.heap.size + 2 ≤ W.heap.size + 1 + 1 from by omega)
    go_simp
    refine hK.out _ _ R6.out (fun hH6 => ?_)
    clear hK K
    try simp only [Act.put, List.getElem_toArray, List.getElem_cons_zero, List.getElem_cons_succ, List.setIfInBounds_toArray, List.set_cons_zero, List.set_cons_succ]
    refine wpAnyH_ready (rs := [1]) (by kernel_rfl) (by simp) ?_
    refine AllReadyH.cons (o := _) rfl (fun K hK => ?_) AllReadyH.nil
    go_simp
    refine (R6.out.dn.sc.N 17 (by omega) (by omega)).mono ?_
    rintro e w7 ⟨z, rfl, hz0, hz1, s7, d7⟩
    have R7 := hide (R6.out.draw s7 d7)
    have K7 := hide (K6.out.drawn d7 (by have := R6.out.dn.lt; have := G0.out; omega))
    refine hK.out _ _ R7.out (fun hH7 => ?_)
    clear hK K s7 d7
    try simp only [Act.put, List.getElem_toArray, List.getElem_cons_zero, List.getElem_cons_succ, List.setIfInBounds_toArray, List.set_cons_zero, List.set_cons_succ]
    refine wpAnyH_take (i := 2) (oi := _) (v := .int .i64 (1 + z)) rfl (by kernel_rfl) (by kernel_rfl) (by kernel_rfl) (fun _ _ _ h => h) (Or.inl ⟨by rfl, fun w' hw' => by have hzw := wrap1 z hz0 (by omega); go_simp⟩) hH7 ?_
    try simp only [Act.put, List.getElem_toArray, List.getElem_cons_zero, List.getElem_cons_succ, List.setIfInBounds_toArray, List.set_cons_zero, List.set_cons_succ]
    refine wpAnyH_ready (rs := [5]) (by kernel_rfl) (by simp) ?_
    refine AllReadyH.cons (o := _) rfl (fun K hK => ?_) AllReadyH.nil
    go_simp
    refine (path_drawn R7.out.dn.sc D R7.out.nd).mono ?_
    rintro e w8 ⟨sp, rfl, hp, s8, d8⟩
    have R8 := hide (R7.out.draw s8 d8)
    have K8 := hide (K7.out.drawn d8 (by have := R7.out.dn.lt; have := G0.out; omega))
    refine hK.out _ _ R8.out (fun hH8 => ?_)
    clear hK K s8 d8
    try simp only [Act.put, List.getElem_toArray, List.getElem_cons_zero, List.getElem_cons_succ, List.setIfInBounds_toArray, List.set_cons_zero, List.set_cons_succ]
    refine wpAnyH_take (i := 6) (oi := _) (v := .agg (opC (1 + z) 0 0 0 0 sp ⟨#[]⟩ (.slice none 0 0))) rfl (by kernel_rfl) (by kernel_rfl) (by kernel_rfl) (fun _ _ _ h => h) (Or.inl ⟨by rfl, fun w' hw' => by go_simp <;> rfl⟩) hH8 ?_
    try simp only [Act.put, List.getElem_toArray, List.getElem_cons_zero, List.getElem_cons_succ, List.setIfInBounds_toArray, List.set_cons_zero, List.set_cons_succ]
    refine wpAnyH_ready (rs := [8]) (by kernel_rfl) (by simp) ?_
    refine AllReadyH.cons (o := _) rfl (fun K hK => ?_) AllReadyH.nil
    have HO := hide (R8.out.ops K8.out G0.out (1 + z) (by omega) (by omega) sp hp)
    refine wp_store_row 30 _ _ rfl (W.heap.size + 1 + 1) (opC (1 + z) 0 0 0 0 sp ⟨#[]⟩ (.slice none 0 0)) rfl rfl 30 _ K8.out infoO8 rfl (opC_one1 _ _ _ _ _ _ _ _ _ _) ?_
    refine hK.out _ _ ⟨HO.out.dn, HO.out.st, HO.out.rs, HO.out.nd, HO.out.hD, HO.out.ne⟩ (fun hH => ?_)
    clear hK K
    try simp only [Act.put, List.getElem_toArray, List.getElem_cons_zero, List.getElem_cons_succ, List.setIfInBounds_toArray, List.set_cons_zero, List.set_cons_succ]
    refine wpAnyH_done (by kernel_rfl) (NoPanic.normal ?_) _
    exact HQ.out _ _ _ _ _ _ _ _ _ _ HO.out
end Go.Proofs.YtohmjfagbhnieaaGreatDoor
