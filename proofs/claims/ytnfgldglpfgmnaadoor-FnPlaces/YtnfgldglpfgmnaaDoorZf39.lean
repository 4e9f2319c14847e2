/- The program's renewal: renewPointers. -/
import Derived.Test.YtnfgldglpfgmnaaDoorZf36
import Derived.Test.YtnfgldglpfgmnaaDoorZf38
namespace Go.Proofs.YtnfgldglpfgmnaaDoor
set_option linter.unusedVariables false
set_option linter.unusedSimpArgs false
open Go.RowKit

theorem wordsN_len (Ls : Nat → List Int) (l r : Nat) : (wordsN Ls l r).length = 128 := by unfold wordsN; simp
theorem blk_setRow {w : World} {b g : Nat} {C : Array Value} {t : TypeId} (h : Blk w b C t) (hne : b ≠ g) (X : Array Value) : Blk (w.setRow g X) b C t := (setRow_other w g b X hne).trans h
set_option maxRecDepth 100000 in
set_option maxHeartbeats 4000000 in
theorem renewPtrs_any (W0 w : World) (b l r : Nat) (D : RD) (h : RSt W0 w b D) (hl : l < 2) (hr : r ≤ 700) (hL : (D.Ln (l + 1)).length ≤ 100001) (hP : D.P.length ≤ 100000) (ho : (D.Lo (l + 1)).getD r 0 = 0) (hg : ErrT w) :
    Calls Tryd.prog 48 #[.pointer (some ⟨b, 0, none⟩), spotV (l + 1) r] w fun e w' => e = .returned (.tuple #[]) ∧ RSt W0 w' b (D.place (l + 1) r (decide (wordsN D.Ln l r = List.replicate 128 0)) (encW (wordsN D.Ln l r))) ∧ FrR b w w' ∧ Below W0.heap.size w w' := by
  obtain ⟨Z, hZ, hAl⟩ := letBwZ
  have HAl := hide hAl
  have HZs := hide (show Z.size = 128 from by rw [hZ]; simp)
  obtain ⟨W1, hW1⟩ : ∃ W1, W1 = w.alloc (.cells #[.int .i64 ((l : Int) + 1), .int .i64 (r : Int)] 113) := ⟨_, rfl⟩
  have B1 := hide (show Below w.heap.size w W1 from by rw [hW1]; exact (Below.refl _ _).alloc (Nat.le_refl _) _)
  have K1 := hide (show Blk W1 w.heap.size #[.int .i64 ((l : Int) + 1), .int .i64 (r : Int)] 113 from by rw [hW1]; exact Blk.new w _ _)
  have hs1 : W1.heap.size = w.heap.size + 1 := by rw [hW1]; simp
  have H := hide h
  have HS := hide (And.intro hL (And.intro hP ho))
  have HG := hide hg
  have HLO := hide (show W0.heap.size ≤ w.heap.size ∧ Below W0.heap.size W0 w from by obtain ⟨_, _, _, _, _, _, hS⟩ := h; exact ⟨hS.low.size, hS.low⟩)
  obtain ⟨ws, hws⟩ : ∃ ws, ws = wordsN D.Ln l r := ⟨_, rfl⟩
  have HWs := hide hws
  have HWl := hide (show ws.length = 128 from by rw [hws]; exact wordsN_len _ _ _)
  rw [← hws]
  obtain ⟨ml, hml⟩ : ∃ ml, ml = ws.map (Value.int .i64) := ⟨_, rfl⟩
  have HML := hide hml
  have HMl := hide (show ml.length = 128 from by rw [hml, List.length_map]; exact HWl.out)
  have HM1 := hide (show ml.toArray.all (·.oneCell') = true from by rw [hml]; exact i64_one _)
  have HInM := hide (show (Tryd.prog.info? 141).map (·.size) = some ml.length from by rw [HMl.out]; exact infoBw)
  have HInA := hide (show (Tryd.prog.info? 141).map (·.size) = some ml.toArray.size from by rw [List.size_toArray, HMl.out]; exact infoBw)
  have HW1 := hide hW1
  have HSz := hide hs1
  clear hW1 h hL hP ho hg hZ hAl hs1 hws hml
  go_enter Tryd.func48, Tryd.ntmps48
  unfold spotV
  go_upto_region 1 with fail
  have hcast : (((l + 1 : Nat)) : Int) = (l : Int) + 1 := by omega
  try simp only [hcast]
  rw [← HW1.out]
  refine wp_region_noPanic ?_
  refine wp_region_held_drew (S := fun w' => Blk w' w.heap.size #[.int .i64 ((l : Int) + 1), .int .i64 (r : Int)] 113) (by kernel_rfl) K1.out (fun hH => ?_)
  refine wpAnyH_take (i := 0) (oi := _) (v := .pointer (some ⟨b, 0, none⟩)) rfl (by kernel_rfl) (by kernel_rfl) (by kernel_rfl) (fun _ _ _ h => h) (Or.inl ⟨by rfl, fun w' hw' => by go_simp⟩) hH ?_
  try simp only [Act.put, List.getElem_toArray, List.getElem_cons_zero, List.getElem_cons_succ, List.setIfInBounds_toArray, List.set_cons_zero, List.set_cons_succ]
  refine wpAnyH_take (i := 1) (oi := _) (v := .pointer (some ⟨b, 0, none⟩)) rfl (by kernel_rfl) (by kernel_rfl) (by kernel_rfl) (fun _ _ _ h => h) (Or.inl ⟨by rfl, fun w' hw' => by go_simp⟩) hH ?_
  try simp only [Act.put, List.getElem_toArray, List.getElem_cons_zero, List.getElem_cons_succ, List.setIfInBounds_toArray, List.set_cons_zero, List.set_cons_succ]
  refine wpAnyH_take (i := 2) (oi := _) (v := .pointer (some ⟨b, 20, none⟩)) rfl (by kernel_rfl) (by kernel_rfl) (by kernel_rfl) (fun _ _ _ h => h) (Or.inl ⟨by rfl, fun w' hw' => by go_simp⟩) hH ?_
  try simp only [Act.put, List.getElem_toArray, List.getElem_cons_zero, List.getElem_cons_succ, List.setIfInBounds_toArray, List.set_cons_zero, List.set_cons_succ]
  refine wpAnyH_take (i := 3) (oi := _) (v := .agg #[.int .i64 ((l : Int) + 1), .int .i64 (r : Int)]) rfl (by kernel_rfl) (by kernel_rfl) (by kernel_rfl) (fun _ _ _ h => h) (yieldsIf_load_mid (by rfl) 113 _ rfl w.heap.size 0 rfl [.int .i64 ((l : Int) + 1), .int .i64 (r : Int)] _ (fun w' h => blk_two h) Tryd.underlying113 rfl infoSp) hH ?_
  try simp only [Act.put, List.getElem_toArray, List.getElem_cons_zero, List.getElem_cons_succ, List.setIfInBounds_toArray, List.set_cons_zero, List.set_cons_succ]
  refine wpAnyH_ready (rs := [4, 5]) (by kernel_rfl) (by simp) ?_
  refine AllReadyH.cons (o := _) rfl (fun K hK => ?_) (AllReadyH.cons (o := _) rfl (fun K hK => ?_) AllReadyH.nil)
  · go_simp
    have hN : ∃ C so sl fv pv vs, RStC W0 W1.drew b D C so sl fv pv vs := H.out.below B1.out.drew
    obtain ⟨C2, so2, sl2, fv2, pv2, vs2, hS2⟩ := hN
    have hcall := belowN_any b 20 l r C2 72 sl2 D.Ln W0.heap.size _ hS2.now hl hr
    simp only [spotV, hcast] at hcall
    refine hcall.mono ?_
    clear hcall
    rintro e w2 ⟨rfl, b2⟩
    rw [← HWs.out, ← HML.out]
    have B2 := hide (show Below W1.heap.size W1 w2 from (Below.refl _ _).drew.trans b2)
    clear b2 hS2
    refine hK.out _ _ (K1.out.below B2.out K1.out.lt) (fun hH => ?_)
    clear hK K
    try simp only [Act.put, List.getElem_toArray, List.getElem_cons_zero, List.getElem_cons_succ, List.setIfInBounds_toArray, List.set_cons_zero, List.set_cons_succ]
    refine wpAnyH_ready (rs := [5]) (by kernel_rfl) (by simp) ?_
    refine AllReadyH.cons (o := _) rfl (fun K hK => ?_) AllReadyH.nil
    rw [if_pos (by rfl)]
    unfold Oper.wp
    rw [HAl.out _ _ _ rfl, Oper.upon_value]
    have b3 : Below w2.heap.size w2 (w2.alloc (.cells Z 141)) := (Below.refl _ _).alloc (Nat.le_refl _) _
    have k3 : Blk (w2.alloc (.cells Z 141)) w.heap.size #[.int .i64 ((l : Int) + 1), .int .i64 (r : Int)] 113 := (K1.out.below B2.out K1.out.lt).alloc _
    refine hK.out _ _ k3 (fun hH => ?_)
    clear hK K
    try simp only [Act.put, List.getElem_toArray, List.getElem_cons_zero, List.getElem_cons_succ, List.setIfInBounds_toArray, List.set_cons_zero, List.set_cons_succ]
    refine wpAnyH_ready (rs := [6]) (by kernel_rfl) (by simp) ?_
    refine AllReadyH.cons (o := _) rfl (fun K hK => ?_) AllReadyH.nil
    rw [if_pos (by rfl)]
    refine wp_store_row 141 _ _ rfl w2.heap.size ml.toArray rfl rfl 141 Z (show _ from Blk.new w2 Z 141) HInA.out (HZs.out.trans (by rw [List.size_toArray, HMl.out])) HM1.out ?_
    have KM := hide (show Blk ((w2.alloc (.cells Z 141)).setRow w2.heap.size ml.toArray) w2.heap.size ml.toArray 141 from (Blk.new w2 Z 141).row _)
    have KS := hide (show Blk ((w2.alloc (.cells Z 141)).setRow w2.heap.size ml.toArray) w.heap.size #[.int .i64 ((l : Int) + 1), .int .i64 (r : Int)] 113 from blk_setRow k3 (by have h1 := B2.out.size; have h2 := HSz.out; omega) _)
    have BR := hide (show Below w.heap.size w ((w2.alloc (.cells Z 141)).setRow w2.heap.size ml.toArray) from below_setRow ((B1.out.trans (B2.out.mono B1.out.size)).trans (b3.mono (by have h1 := B2.out.size; have h2 := HSz.out; omega))) (by have h1 := B2.out.size; have h2 := HSz.out; omega) _)
    refine hK.out _ _ KS.out (fun hH => ?_)
    clear hK K
    try simp only [Act.put, List.getElem_toArray, List.getElem_cons_zero, List.getElem_cons_succ, List.setIfInBounds_toArray, List.set_cons_zero, List.set_cons_succ]
    refine wpAnyH_done (by kernel_rfl) (NoPanic.normal ?_) _
    clear hH
    obtain ⟨mm, hmm⟩ : ∃ mm, mm = w2.heap.size := ⟨_, rfl⟩
    obtain ⟨wR, hwR⟩ : ∃ wR, wR = (w2.alloc (.cells Z 141)).setRow w2.heap.size ml.toArray := ⟨_, rfl⟩
    rw [← hwR] at KM KS BR ⊢
    rw [← hmm] at KM ⊢
    clear hmm hwR
    have RR := hide (H.out.below BR.out)
    obtain ⟨C9, so9, sl9, fv9, pv9, vs9, hS9⟩ := RR.out
    have T9 := hide hS9
    clear hS9
    have HTr := hide (show (Tryd.prog.info? 67).map (·.size) = some D.tr.toList.length from by rw [Array.length_toList, T9.out.trs]; exact infoTrR)
    obtain ⟨tl, htl⟩ : ∃ tl, tl = D.tr.toList := ⟨_, rfl⟩
    have HTL := hide (show wR.rangeAt b 0 tl from by rw [htl]; exact T9.out.range T9.out.now.box)
    rw [← htl] at HTr
    have HTE := hide htl
    clear htl
    go_wp2_with fail
    refine wp_region_noPanic ?_
    refine wp_region_held_drew (S := fun w' => Blk w' w.heap.size #[.int .i64 ((l : Int) + 1), .int .i64 (r : Int)] 113 ∧ Blk w' mm ml.toArray 141 ∧ w'.rangeAt b 0 tl) (by kernel_rfl) ⟨KS.out, KM.out, HTL.out⟩ (fun hH => ?_)
    refine wpAnyH_take (i := 0) (oi := _) (v := .pointer (some ⟨b, 0, none⟩)) rfl (by kernel_rfl) (by kernel_rfl) (by kernel_rfl) (fun _ _ _ h => h) (Or.inl ⟨by rfl, fun w' hw' => by go_simp⟩) hH ?_
    try simp only [Act.put, List.getElem_toArray, List.getElem_cons_zero, List.getElem_cons_succ, List.setIfInBounds_toArray, List.set_cons_zero, List.set_cons_succ]
    refine wpAnyH_take (i := 1) (oi := _) (v := .agg #[.int .i64 ((l : Int) + 1), .int .i64 (r : Int)]) rfl (by kernel_rfl) (by kernel_rfl) (by kernel_rfl) (fun _ _ _ h => h) (yieldsIf_load_mid (by rfl) 113 _ rfl w.heap.size 0 rfl [.int .i64 ((l : Int) + 1), .int .i64 (r : Int)] _ (fun w' h => blk_two h.1) Tryd.underlying113 rfl infoSp) hH ?_
    try simp only [Act.put, List.getElem_toArray, List.getElem_cons_zero, List.getElem_cons_succ, List.setIfInBounds_toArray, List.set_cons_zero, List.set_cons_succ]
    refine wpAnyH_take (i := 2) (oi := _) (v := .agg ml.toArray) rfl (by kernel_rfl) (by kernel_rfl) (by kernel_rfl) (fun _ _ _ h => h) (yieldsIf_load_mid (by rfl) 141 _ rfl mm 0 rfl ml _ (fun w' h => blk_range h.2.1) Tryd.underlying141 rfl HInM.out) hH ?_
    try simp only [Act.put, List.getElem_toArray, List.getElem_cons_zero, List.getElem_cons_succ, List.setIfInBounds_toArray, List.set_cons_zero, List.set_cons_succ]
    refine wpAnyH_take (i := 3) (oi := _) (v := .pointer (some ⟨b, 0, none⟩)) rfl (by kernel_rfl) (by kernel_rfl) (by kernel_rfl) (fun _ _ _ h => h) (Or.inl ⟨by rfl, fun w' hw' => by go_simp⟩) hH ?_
    try simp only [Act.put, List.getElem_toArray, List.getElem_cons_zero, List.getElem_cons_succ, List.setIfInBounds_toArray, List.set_cons_zero, List.set_cons_succ]
    refine wpAnyH_take (i := 4) (oi := _) (v := .pointer (some ⟨b, 0, none⟩)) rfl (by kernel_rfl) (by kernel_rfl) (by kernel_rfl) (fun _ _ _ h => h) (Or.inl ⟨by rfl, fun w' hw' => by go_simp⟩) hH ?_
    try simp only [Act.put, List.getElem_toArray, List.getElem_cons_zero, List.getElem_cons_succ, List.setIfInBounds_toArray, List.set_cons_zero, List.set_cons_succ]
    refine wpAnyH_take (i := 5) (oi := _) (v := .pointer (some ⟨b, 0, none⟩)) rfl (by kernel_rfl) (by kernel_rfl) (by kernel_rfl) (fun _ _ _ h => h) (Or.inl ⟨by rfl, fun w' hw' => by go_simp⟩) hH ?_
    try simp only [Act.put, List.getElem_toArray, List.getElem_cons_zero, List.getElem_cons_succ, List.setIfInBounds_toArray, List.set_cons_zero, List.set_cons_succ]
    refine wpAnyH_take (i := 6) (oi := _) (v := .agg tl.toArray) rfl (by kernel_rfl) (by kernel_rfl) (by kernel_rfl) (fun _ _ _ h => h) (yieldsIf_load_mid (by rfl) 67 _ rfl b 0 rfl tl _ (fun w' h => h.2.2) Tryd.underlying67 rfl HTr.out) hH ?_
    try simp only [Act.put, List.getElem_toArray, List.getElem_cons_zero, List.getElem_cons_succ, List.setIfInBounds_toArray, List.set_cons_zero, List.set_cons_succ]
    refine wpAnyH_take (i := 7) (oi := _) (v := .func (.func 78) #[.agg tl.toArray] #[]) rfl (by kernel_rfl) (by kernel_rfl) (by kernel_rfl) (fun _ _ _ h => h) (Or.inl ⟨by rfl, fun w' hw' => by go_simp⟩) hH ?_
    try simp only [Act.put, List.getElem_toArray, List.getElem_cons_zero, List.getElem_cons_succ, List.setIfInBounds_toArray, List.set_cons_zero, List.set_cons_succ]
    refine wpAnyH_take (i := 8) (oi := _) (v := .agg ml.toArray) rfl (by kernel_rfl) (by kernel_rfl) (by kernel_rfl) (fun _ _ _ h => h) (yieldsIf_load_mid (by rfl) 141 _ rfl mm 0 rfl ml _ (fun w' h => blk_range h.2.1) Tryd.underlying141 rfl HInM.out) hH ?_
    try simp only [Act.put, List.getElem_toArray, List.getElem_cons_zero, List.getElem_cons_succ, List.setIfInBounds_toArray, List.set_cons_zero, List.set_cons_succ]
    refine wpAnyH_take (i := 9) (oi := _) (v := .func (.func 79) #[.agg ml.toArray] #[]) rfl (by kernel_rfl) (by kernel_rfl) (by kernel_rfl) (fun _ _ _ h => h) (Or.inl ⟨by rfl, fun w' hw' => by go_simp⟩) hH ?_
    try simp only [Act.put, List.getElem_toArray, List.getElem_cons_zero, List.getElem_cons_succ, List.setIfInBounds_toArray, List.set_cons_zero, List.set_cons_succ]
    refine wpAnyH_ready (rs := [10]) (by kernel_rfl) (by simp) ?_
    refine AllReadyH.cons (o := _) rfl (fun K hK => ?_) AllReadyH.nil
    go_simp
    have hcall := placeW_any W0 wR.drew b (l + 1) r D ws (.func (.func 78) #[.agg tl.toArray] #[]) ml.toArray (by rw [HML.out]) (RR.out.below ((Below.refl _ _).drew)) (by omega) (by omega) HS.out.1 HS.out.2.1 HS.out.2.2 HWl.out (HG.out.below BR.out.drew)
    simp only [spotV, hcast] at hcall
    refine hcall.mono ?_
    clear hcall
    rintro e wA ⟨rfl, rA, yA, bA⟩
    have RA := hide (And.intro rA (And.intro (show FrR b w wA from (((FrR.refl b w).below BR.out).below ((Below.refl _ _).drew)).trans yA) (show Below W0.heap.size w wA from (BR.out.mono HLO.out.1).drew.trans bA)))
    have sA : wA.rangeAt b 0 tl := by
      obtain ⟨CA, _, _, _, _, _, hSA⟩ := rA
      have := hSA.range hSA.now.box
      rw [place_tr, ← HTE.out] at this
      exact this
    have s1 := yA.blk (KS.out.below ((Below.refl _ _).drew) KS.out.lt) (by unfold TyR; decide)
    have s2 := yA.blk (KM.out.below ((Below.refl _ _).drew) KM.out.lt) (by unfold TyR; decide)
    clear rA yA bA
    refine hK.out _ _ ⟨s1, s2, sA⟩ (fun hH => ?_)
    clear hK K s1 s2 sA
    try simp only [Act.put, List.getElem_toArray, List.getElem_cons_zero, List.getElem_cons_succ, List.setIfInBounds_toArray, List.set_cons_zero, List.set_cons_succ]
    refine wpAnyH_done (by kernel_rfl) (NoPanic.normal ?_) _
    clear hH
    go_wp2
    go_end0
    exact ⟨rfl, RA.out.1, RA.out.2.1, RA.out.2.2⟩
  · rw [if_pos (by rfl)]
    unfold Oper.wp
    rw [HAl.out _ _ _ rfl, Oper.upon_value]
    have b3 : Below W1.heap.size W1 (W1.drew.alloc (.cells Z 141)) := ((Below.refl _ _).drew).alloc (Nat.le_refl _) _
    have k3 : Blk (W1.drew.alloc (.cells Z 141)) w.heap.size #[.int .i64 ((l : Int) + 1), .int .i64 (r : Int)] 113 := K1.out.below b3 K1.out.lt
    have z3 : Blk (W1.drew.alloc (.cells Z 141)) W1.heap.size Z 141 := Blk.new W1.drew Z 141
    have K3 := hide k3
    have B3 := hide b3
    have Z3 := hide z3
    refine hK.out _ _ k3 (fun hH => ?_)
    clear hK K k3 b3 z3
    try simp only [Act.put, List.getElem_toArray, List.getElem_cons_zero, List.getElem_cons_succ, List.setIfInBounds_toArray, List.set_cons_zero, List.set_cons_succ]
    refine wpAnyH_ready (rs := [4]) (by kernel_rfl) (by simp) ?_
    refine AllReadyH.cons (o := _) rfl (fun K hK => ?_) AllReadyH.nil
    go_simp
    have hN : ∃ C so sl fv pv vs, RStC W0 (W1.drew.alloc (.cells Z 141)) b D C so sl fv pv vs := H.out.below (B1.out.trans (B3.out.mono B1.out.size))
    obtain ⟨C2, so2, sl2, fv2, pv2, vs2, hS2⟩ := hN
    have hcall := belowN_any b 20 l r C2 72 sl2 D.Ln W0.heap.size _ hS2.now hl hr
    simp only [spotV, hcast] at hcall
    refine hcall.mono ?_
    clear hcall
    rintro e w2 ⟨rfl, b2⟩
    rw [← HWs.out, ← HML.out]
    have B2 := hide (show Below (W1.drew.alloc (.cells Z 141)).heap.size (W1.drew.alloc (.cells Z 141)) w2 from b2)
    clear b2 hS2
    refine hK.out _ _ (K3.out.below B2.out K3.out.lt) (fun hH => ?_)
    clear hK K
    try simp only [Act.put, List.getElem_toArray, List.getElem_cons_zero, List.getElem_cons_succ, List.setIfInBounds_toArray, List.set_cons_zero, List.set_cons_succ]
    refine wpAnyH_ready (rs := [6]) (by kernel_rfl) (by simp) ?_
    refine AllReadyH.cons (o := _) rfl (fun K hK => ?_) AllReadyH.nil
    rw [if_pos (by rfl)]
    refine wp_store_row 141 _ _ rfl W1.heap.size ml.toArray rfl rfl 141 Z (show _ from Z3.out.below B2.out Z3.out.lt) HInA.out (HZs.out.trans (by rw [List.size_toArray, HMl.out])) HM1.out ?_
    have KM := hide (show Blk (w2.setRow W1.heap.size ml.toArray) W1.heap.size ml.toArray 141 from (Z3.out.below B2.out Z3.out.lt).row _)
    have KS := hide (show Blk (w2.setRow W1.heap.size ml.toArray) w.heap.size #[.int .i64 ((l : Int) + 1), .int .i64 (r : Int)] 113 from blk_setRow (K3.out.below B2.out K3.out.lt) (by have h2 := HSz.out; omega) _)
    have BR := hide (show Below w.heap.size w (w2.setRow W1.heap.size ml.toArray) from below_setRow ((B1.out.trans (B3.out.mono B1.out.size)).trans (B2.out.mono (by have h1 := B3.out.size; have h2 := HSz.out; omega))) (by have h2 := HSz.out; omega) _)
    refine hK.out _ _ KS.out (fun hH => ?_)
    clear hK K
    try simp only [Act.put, List.getElem_toArray, List.getElem_cons_zero, List.getElem_cons_succ, List.setIfInBounds_toArray, List.set_cons_zero, List.set_cons_succ]
    refine wpAnyH_done (by kernel_rfl) (NoPanic.normal ?_) _
    clear hH
    obtain ⟨mm, hmm⟩ : ∃ mm, mm = W1.heap.size := ⟨_, rfl⟩
    obtain ⟨wR, hwR⟩ : ∃ wR, wR = w2.setRow W1.heap.size ml.toArray := ⟨_, rfl⟩
    rw [← hwR] at KM KS BR ⊢
    rw [← hmm] at KM ⊢
    clear hmm hwR
    have RR := hide (H.out.below BR.out)
    obtain ⟨C9, so9, sl9, fv9, pv9, vs9, hS9⟩ := RR.out
    have T9 := hide hS9
    clear hS9
    have HTr := hide (show (Tryd.prog.info? 67).map (·.size) = some D.tr.toList.length from by rw [Array.length_toList, T9.out.trs]; exact infoTrR)
    obtain ⟨tl, htl⟩ : ∃ tl, tl = D.tr.toList := ⟨_, rfl⟩
    have HTL := hide (show wR.rangeAt b 0 tl from by rw [htl]; exact T9.out.range T9.out.now.box)
    rw [← htl] at HTr
    have HTE := hide htl
    clear htl
    go_wp2_with fail
    refine wp_region_noPanic ?_
    refine wp_region_held_drew (S := fun w' => Blk w' w.heap.size #[.int .i64 ((l : Int) + 1), .int .i64 (r : Int)] 113 ∧ Blk w' mm ml.toArray 141 ∧ w'.rangeAt b 0 tl) (by kernel_rfl) ⟨KS.out, KM.out, HTL.out⟩ (fun hH => ?_)
    refine wpAnyH_take (i := 0) (oi := _) (v := .pointer (some ⟨b, 0, none⟩)) rfl (by kernel_rfl) (by kernel_rfl) (by kernel_rfl) (fun _ _ _ h => h) (Or.inl ⟨by rfl, fun w' hw' => by go_simp⟩) hH ?_
    try simp only [Act.put, List.getElem_toArray, List.getElem_cons_zero, List.getElem_cons_succ, List.setIfInBounds_toArray, List.set_cons_zero, List.set_cons_succ]
    refine wpAnyH_take (i := 1) (oi := _) (v := .agg #[.int .i64 ((l : Int) + 1), .int .i64 (r : Int)]) rfl (by kernel_rfl) (by kernel_rfl) (by kernel_rfl) (fun _ _ _ h => h) (yieldsIf_load_mid (by rfl) 113 _ rfl w.heap.size 0 rfl [.int .i64 ((l : Int) + 1), .int .i64 (r : Int)] _ (fun w' h => blk_two h.1) Tryd.underlying113 rfl infoSp) hH ?_
    try simp only [Act.put, List.getElem_toArray, List.getElem_cons_zero, List.getElem_cons_succ, List.setIfInBounds_toArray, List.set_cons_zero, List.set_cons_succ]
    refine wpAnyH_take (i := 2) (oi := _) (v := .agg ml.toArray) rfl (by kernel_rfl) (by kernel_rfl) (by kernel_rfl) (fun _ _ _ h => h) (yieldsIf_load_mid (by rfl) 141 _ rfl mm 0 rfl ml _ (fun w' h => blk_range h.2.1) Tryd.underlying141 rfl HInM.out) hH ?_
    try simp only [Act.put, List.getElem_toArray, List.getElem_cons_zero, List.getElem_cons_succ, List.setIfInBounds_toArray, List.set_cons_zero, List.set_cons_succ]
    refine wpAnyH_take (i := 3) (oi := _) (v := .pointer (some ⟨b, 0, none⟩)) rfl (by kernel_rfl) (by kernel_rfl) (by kernel_rfl) (fun _ _ _ h => h) (Or.inl ⟨by rfl, fun w' hw' => by go_simp⟩) hH ?_
    try simp only [Act.put, List.getElem_toArray, List.getElem_cons_zero, List.getElem_cons_succ, List.setIfInBounds_toArray, List.set_cons_zero, List.set_cons_succ]
    refine wpAnyH_take (i := 4) (oi := _) (v := .pointer (some ⟨b, 0, none⟩)) rfl (by kernel_rfl) (by kernel_rfl) (by kernel_rfl) (fun _ _ _ h => h) (Or.inl ⟨by rfl, fun w' hw' => by go_simp⟩) hH ?_
    try simp only [Act.put, List.getElem_toArray, List.getElem_cons_zero, List.getElem_cons_succ, List.setIfInBounds_toArray, List.set_cons_zero, List.set_cons_succ]
    refine wpAnyH_take (i := 5) (oi := _) (v := .pointer (some ⟨b, 0, none⟩)) rfl (by kernel_rfl) (by kernel_rfl) (by kernel_rfl) (fun _ _ _ h => h) (Or.inl ⟨by rfl, fun w' hw' => by go_simp⟩) hH ?_
    try simp only [Act.put, List.getElem_toArray, List.getElem_cons_zero, List.getElem_cons_succ, List.setIfInBounds_toArray, List.set_cons_zero, List.set_cons_succ]
    refine wpAnyH_take (i := 6) (oi := _) (v := .agg tl.toArray) rfl (by kernel_rfl) (by kernel_rfl) (by kernel_rfl) (fun _ _ _ h => h) (yieldsIf_load_mid (by rfl) 67 _ rfl b 0 rfl tl _ (fun w' h => h.2.2) Tryd.underlying67 rfl HTr.out) hH ?_
    try simp only [Act.put, List.getElem_toArray, List.getElem_cons_zero, List.getElem_cons_succ, List.setIfInBounds_toArray, List.set_cons_zero, List.set_cons_succ]
    refine wpAnyH_take (i := 7) (oi := _) (v := .func (.func 78) #[.agg tl.toArray] #[]) rfl (by kernel_rfl) (by kernel_rfl) (by kernel_rfl) (fun _ _ _ h => h) (Or.inl ⟨by rfl, fun w' hw' => by go_simp⟩) hH ?_
    try simp only [Act.put, List.getElem_toArray, List.getElem_cons_zero, List.getElem_cons_succ, List.setIfInBounds_toArray, List.set_cons_zero, List.set_cons_succ]
    refine wpAnyH_take (i := 8) (oi := _) (v := .agg ml.toArray) rfl (by kernel_rfl) (by kernel_rfl) (by kernel_rfl) (fun _ _ _ h => h) (yieldsIf_load_mid (by rfl) 141 _ rfl mm 0 rfl ml _ (fun w' h => blk_range h.2.1) Tryd.underlying141 rfl HInM.out) hH ?_
    try simp only [Act.put, List.getElem_toArray, List.getElem_cons_zero, List.getElem_cons_succ, List.setIfInBounds_toArray, List.set_cons_zero, List.set_cons_succ]
    refine wpAnyH_take (i := 9) (oi := _) (v := .func (.func 79) #[.agg ml.toArray] #[]) rfl (by kernel_rfl) (by kernel_rfl) (by kernel_rfl) (fun _ _ _ h => h) (Or.inl ⟨by rfl, fun w' hw' => by go_simp⟩) hH ?_
    try simp only [Act.put, List.getElem_toArray, List.getElem_cons_zero, List.getElem_cons_succ, List.setIfInBounds_toArray, List.set_cons_zero, List.set_cons_succ]
    refine wpAnyH_ready (rs := [10]) (by kernel_rfl) (by simp) ?_
    refine AllReadyH.cons (o := _) rfl (fun K hK => ?_) AllReadyH.nil
    go_simp
    have hcall := placeW_any W0 wR.drew b (l + 1) r D ws (.func (.func 78) #[.agg tl.toArray] #[]) ml.toArray (by rw [HML.out]) (RR.out.below ((Below.refl _ _).drew)) (by omega) (by omega) HS.out.1 HS.out.2.1 HS.out.2.2 HWl.out (HG.out.below BR.out.drew)
    simp only [spotV, hcast] at hcall
    refine hcall.mono ?_
    clear hcall
    rintro e wA ⟨rfl, rA, yA, bA⟩
    have RA := hide (And.intro rA (And.intro (show FrR b w wA from (((FrR.refl b w).below BR.out).below ((Below.refl _ _).drew)).trans yA) (show Below W0.heap.size w wA from (BR.out.mono HLO.out.1).drew.trans bA)))
    have sA : wA.rangeAt b 0 tl := by
      obtain ⟨CA, _, _, _, _, _, hSA⟩ := rA
      have := hSA.range hSA.now.box
      rw [place_tr, ← HTE.out] at this
      exact this
    have s1 := yA.blk (KS.out.below ((Below.refl _ _).drew) KS.out.lt) (by unfold TyR; decide)
    have s2 := yA.blk (KM.out.below ((Below.refl _ _).drew) KM.out.lt) (by unfold TyR; decide)
    clear rA yA bA
    refine hK.out _ _ ⟨s1, s2, sA⟩ (fun hH => ?_)
    clear hK K s1 s2 sA
    try simp only [Act.put, List.getElem_toArray, List.getElem_cons_zero, List.getElem_cons_succ, List.setIfInBounds_toArray, List.set_cons_zero, List.set_cons_succ]
    refine wpAnyH_done (by kernel_rfl) (NoPanic.normal ?_) _
    clear hH
    go_wp2
    go_end0
    exact ⟨rfl, RA.out.1, RA.out.2.1, RA.out.2.2⟩
end Go.Proofs.YtnfgldglpfgmnaaDoor
