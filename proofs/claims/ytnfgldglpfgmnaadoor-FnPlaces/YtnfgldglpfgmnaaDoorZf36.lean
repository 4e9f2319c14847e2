/- The program's renewal: place at impl.blockWords. -/
import Derived.Test.YtnfgldglpfgmnaaDoorZf35
import Derived.Deep.RegionHeld3
namespace Go.Proofs.YtnfgldglpfgmnaaDoor
set_option linter.unusedVariables false
set_option linter.unusedSimpArgs false
open Go.RowKit

set_option maxRecDepth 100000 in
set_option maxHeartbeats 4000000 in
theorem placeW_any (W0 w : World) (b l r : Nat) (D : RD) (ms : List Int) (rv : Value) (M : Array Value) (hM : M = (ms.map (Value.int .i64)).toArray) (h : RSt W0 w b D) (hl : l < 3) (hr : r ≤ 100000) (hL : (D.Ln l).length ≤ 100001) (hP : D.P.length ≤ 100000) (ho : (D.Lo l).getD r 0 = 0) (hms : ms.length = 128) (hg : ErrT w) :
    Calls Tryd.prog 77 #[.pointer (some ⟨b, 0, none⟩), spotV l r, .agg M, rv, .func (.func 79) #[.agg M] #[]] w fun e w' => e = .returned (.tuple #[]) ∧ RSt W0 w' b (D.place l r (decide (ms = List.replicate 128 0)) (encW ms)) ∧ FrR b w w' ∧ Below W0.heap.size w w' := by
  obtain ⟨Z, hZ, hAl⟩ := letBwZ
  have HAl := hide hAl
  have HE := hide (show ∀ w' : World, (Op.equalIn 10000 141 (.agg M) (.agg Z)).run Tryd.prog w' = .ok (decide (ms = List.replicate 128 0)) w' from fun w' => by rw [hM, hZ]; exact eqArr_W w' ms _ hms (by simp))
  have HInM := hide (show (Tryd.prog.info? 141).map (·.size) = some M.size from by rw [hM]; simp only [List.size_toArray, List.length_map, hms]; exact infoBw)
  have HInZ := hide (show (Tryd.prog.info? 141).map (·.size) = some Z.size from by rw [hZ]; simp only [List.size_toArray, List.length_map, List.length_replicate]; exact infoBw)
  have HMs := hide (And.intro hM hms)
  obtain ⟨q, hq⟩ : ∃ q, q = decide (ms = List.replicate 128 0) := ⟨_, rfl⟩
  rw [← hq] at HE ⊢
  obtain ⟨W3, hW3⟩ : ∃ W3, W3 = ((w.alloc (.cells #[.int .i64 (l : Int), .int .i64 (r : Int)] 113)).alloc (.cells M 141)).alloc (.cells Z 141) := ⟨_, rfl⟩
  have B3 := hide (show Below w.heap.size w W3 from by rw [hW3]; exact (((Below.refl _ _).alloc (Nat.le_refl _) _).alloc (by simp) _).alloc (by simp; omega) _)
  have K3 := hide (show Blk W3 w.heap.size #[.int .i64 (l : Int), .int .i64 (r : Int)] 113 from by rw [hW3]; exact ((Blk.new w _ _).alloc _).alloc _)
  have M3 := hide (show Blk W3 (w.heap.size + 1) M 141 from by have h := Blk.new (w.alloc (.cells #[.int .i64 (l : Int), .int .i64 (r : Int)] 113)) M 141; rw [World.size_alloc] at h; rw [hW3]; exact h.alloc _)
  have Z3 := hide (show Blk W3 (w.heap.size + 2) Z 141 from by have h := Blk.new ((w.alloc (.cells #[.int .i64 (l : Int), .int .i64 (r : Int)] 113)).alloc (.cells M 141)) Z 141; rw [World.size_alloc, World.size_alloc] at h; rw [hW3]; exact h)
  have H := hide h
  have HO := hide ho
  have HL := hide hL
  have HP := hide hP
  have HG := hide hg
  have HW3 := hide hW3
  clear hW3 h ho hL hP hms hM hZ hAl hq hg
  have HLO := hide (show W0.heap.size ≤ w.heap.size from by obtain ⟨_, _, _, _, _, _, hS⟩ := H.out; exact hS.low.size)
  go_enter Tryd.func77, Tryd.ntmps77
  unfold spotV
  go_upto_region 2 with (first
    | (refine Great.wpList_allocTo rfl (some 10) rfl (.pointer (some ⟨w.heap.size + 1 + 1, 0, none⟩)) (.cells Z 141) (by have e := HAl.out; rw [show w.heap.size + 1 + 1 = ((w.alloc (.cells #[.int .i64 (l : Int), .int .i64 (r : Int)] 113)).alloc (.cells M 141)).heap.size by simp]; exact e _ _ _ rfl) ?_)
    | fail)
  rw [← HW3.out]
  refine wp_region_noPanic ?_
  refine wp_region_held_drew (S := fun w' => Blk w' w.heap.size #[.int .i64 (l : Int), .int .i64 (r : Int)] 113) (by kernel_rfl) K3.out (fun hH => ?_)
  refine wpAnyH_take (i := 0) (oi := _) (v := .pointer (some ⟨b, 0, none⟩)) rfl (by kernel_rfl) (by kernel_rfl) (by kernel_rfl) (fun _ _ _ h => h) (Or.inl ⟨by rfl, fun w' hw' => by go_simp⟩) hH ?_
  try simp only [Act.put, List.getElem_toArray, List.getElem_cons_zero, List.getElem_cons_succ, List.setIfInBounds_toArray, List.set_cons_zero, List.set_cons_succ]
  refine wpAnyH_take (i := 1) (oi := _) (v := .pointer (some ⟨b, 0, none⟩)) rfl (by kernel_rfl) (by kernel_rfl) (by kernel_rfl) (fun _ _ _ h => h) (Or.inl ⟨by rfl, fun w' hw' => by go_simp⟩) hH ?_
  try simp only [Act.put, List.getElem_toArray, List.getElem_cons_zero, List.getElem_cons_succ, List.setIfInBounds_toArray, List.set_cons_zero, List.set_cons_succ]
  refine wpAnyH_take (i := 2) (oi := _) (v := .pointer (some ⟨b, 17, none⟩)) rfl (by kernel_rfl) (by kernel_rfl) (by kernel_rfl) (fun _ _ _ h => h) (Or.inl ⟨by rfl, fun w' hw' => by go_simp⟩) hH ?_
  try simp only [Act.put, List.getElem_toArray, List.getElem_cons_zero, List.getElem_cons_succ, List.setIfInBounds_toArray, List.set_cons_zero, List.set_cons_succ]
  refine wpAnyH_take (i := 3) (oi := _) (v := .agg #[.int .i64 (l : Int), .int .i64 (r : Int)]) rfl (by kernel_rfl) (by kernel_rfl) (by kernel_rfl) (fun _ _ _ h => h) (yieldsIf_load_mid (by rfl) 113 _ rfl w.heap.size 0 rfl [.int .i64 (l : Int), .int .i64 (r : Int)] _ (fun w' h => blk_two h) Tryd.underlying113 rfl infoSp) hH ?_
  try simp only [Act.put, List.getElem_toArray, List.getElem_cons_zero, List.getElem_cons_succ, List.setIfInBounds_toArray, List.set_cons_zero, List.set_cons_succ]
  refine wpAnyH_ready (rs := [4]) (by kernel_rfl) (by simp) ?_
  refine AllReadyH.cons (o := _) rfl ?_ AllReadyH.nil
  intro K hK
  go_simp
  refine (atOld_any W0 _ b l r D (H.out.below B3.out.drew) hl hr).mono ?_
  rintro e w4 ⟨rfl, b4⟩
  have B4 := hide (show Below W3.heap.size W3 w4 from ((Below.refl _ _).drew).trans b4)
  clear b4
  rw [HO.out]
  refine hK.out _ _ (K3.out.below B4.out K3.out.lt) (fun hH => ?_)
  clear hK K
  refine wpAnyH_take (i := 5) (oi := _) (v := .int .i64 0) rfl (by kernel_rfl) (by kernel_rfl) (by kernel_rfl) (fun _ _ _ h => h) (Or.inl ⟨by rfl, fun w' hw' => by go_simp⟩) hH ?_
  try simp only [Act.put, List.getElem_toArray, List.getElem_cons_zero, List.getElem_cons_succ, List.setIfInBounds_toArray, List.set_cons_zero, List.set_cons_succ]
  refine wpAnyH_done (by kernel_rfl) (NoPanic.normal ?_) _
  clear hH
  have B5 := hide (B3.out.trans (B4.out.mono B3.out.size))
  have R5 := hide (H.out.below B5.out)
  have K5 := hide (K3.out.below B4.out K3.out.lt)
  have M5 := hide (M3.out.below B4.out M3.out.lt)
  have Z5 := hide (Z3.out.below B4.out Z3.out.lt)
  cases q with
  | true =>
    go_wp2_with (first
      | (refine wpList_load_row rfl 141 _ rfl (w.heap.size + 1) rfl 141 M (0, 0) _ M5.out Tryd.underlying141 rfl HInM.out ?_)
      | (refine wpList_load_row rfl 141 _ rfl (w.heap.size + 1 + 1) rfl 141 Z (0, 0) _ Z5.out Tryd.underlying141 rfl HInZ.out ?_)
      | (refine wpList_eqlA (by first | rfl | simp [Region.wanted, yielded]) 141 _ _ _ rfl M Z rfl rfl guardA_W true (HE.out _) ?_))
    refine wp_region_noPanic ?_
    refine wp_region_held_drew (S := fun w' => Blk w' w.heap.size #[.int .i64 (l : Int), .int .i64 (r : Int)] 113) (by kernel_rfl) K5.out (fun hH => ?_)
    refine wpAnyH_take (i := 0) (oi := _) (v := .pointer (some ⟨b, 0, none⟩)) rfl (by kernel_rfl) (by kernel_rfl) (by kernel_rfl) (fun _ _ _ h => h) (Or.inl ⟨by rfl, fun w' hw' => by go_simp⟩) hH ?_
    try simp only [Act.put, List.getElem_toArray, List.getElem_cons_zero, List.getElem_cons_succ, List.setIfInBounds_toArray, List.set_cons_zero, List.set_cons_succ]
    refine wpAnyH_take (i := 1) (oi := _) (v := .pointer (some ⟨b, 0, none⟩)) rfl (by kernel_rfl) (by kernel_rfl) (by kernel_rfl) (fun _ _ _ h => h) (Or.inl ⟨by rfl, fun w' hw' => by go_simp⟩) hH ?_
    try simp only [Act.put, List.getElem_toArray, List.getElem_cons_zero, List.getElem_cons_succ, List.setIfInBounds_toArray, List.set_cons_zero, List.set_cons_succ]
    refine wpAnyH_take (i := 2) (oi := _) (v := .pointer (some ⟨b, 20, none⟩)) rfl (by kernel_rfl) (by kernel_rfl) (by kernel_rfl) (fun _ _ _ h => h) (Or.inl ⟨by rfl, fun w' hw' => by go_simp⟩) hH ?_
    try simp only [Act.put, List.getElem_toArray, List.getElem_cons_zero, List.getElem_cons_succ, List.setIfInBounds_toArray, List.set_cons_zero, List.set_cons_succ]
    refine wpAnyH_take (i := 3) (oi := _) (v := .agg #[.int .i64 (l : Int), .int .i64 (r : Int)]) rfl (by kernel_rfl) (by kernel_rfl) (by kernel_rfl) (fun _ _ _ h => h) (yieldsIf_load_mid (by rfl) 113 _ rfl w.heap.size 0 rfl [.int .i64 (l : Int), .int .i64 (r : Int)] _ (fun w' h => blk_two h) Tryd.underlying113 rfl infoSp) hH ?_
    try simp only [Act.put, List.getElem_toArray, List.getElem_cons_zero, List.getElem_cons_succ, List.setIfInBounds_toArray, List.set_cons_zero, List.set_cons_succ]
    refine wpAnyH_ready (rs := [4]) (by kernel_rfl) (by simp) ?_
    refine AllReadyH.cons (o := _) rfl ?_ AllReadyH.nil
    intro K hK
    go_simp
    refine (setR_any W0 _ b l r 0 D (R5.out.below ((Below.refl _ _).drew)) hl hr HL.out).mono ?_
    rintro e w6 ⟨rfl, r6, y6, b6⟩
    have R6 := hide (And.intro r6 (And.intro (show FrR b w w6 from (((FrR.refl b w).below B5.out).below ((Below.refl _ _).drew)).trans y6) (show Below W0.heap.size w w6 from ((B5.out.mono HLO.out).drew).trans b6)))
    have s6 := (y6.blk (K5.out.below ((Below.refl _ _).drew) K5.out.lt) (by unfold TyR; decide))
    clear r6 y6 b6
    refine hK.out _ _ s6 (fun hH => ?_)
    clear hK K s6
    try simp only [Act.put, List.getElem_toArray, List.getElem_cons_zero, List.getElem_cons_succ, List.setIfInBounds_toArray, List.set_cons_zero, List.set_cons_succ]
    refine wpAnyH_done (by kernel_rfl) (NoPanic.normal ?_) _
    clear hH
    go_wp2
    go_end0
    exact ⟨rfl, R6.out.1, R6.out.2.1, R6.out.2.2⟩
  | false =>
    go_wp2_with (first
      | (refine wpList_load_row rfl 141 _ rfl (w.heap.size + 1) rfl 141 M (0, 0) _ M5.out Tryd.underlying141 rfl HInM.out ?_)
      | (refine wpList_load_row rfl 141 _ rfl (w.heap.size + 1 + 1) rfl 141 Z (0, 0) _ Z5.out Tryd.underlying141 rfl HInZ.out ?_)
      | (refine wpList_eqlA (by first | rfl | simp [Region.wanted, yielded]) 141 _ _ _ rfl M Z rfl rfl guardA_W false (HE.out _) ?_))
    refine wp_region_noPanic ?_
    refine wp_region_held_drew (S := fun _ => True) (by kernel_rfl) trivial (fun hH => ?_)
    refine wpAnyH_take (i := 0) (oi := _) (v := .int .i64 0) rfl (by kernel_rfl) (by kernel_rfl) (by kernel_rfl) (fun _ _ _ h => h) (Or.inl ⟨by rfl, fun w' hw' => by go_simp⟩) hH ?_
    try simp only [Act.put, List.getElem_toArray, List.getElem_cons_zero, List.getElem_cons_succ, List.setIfInBounds_toArray, List.set_cons_zero, List.set_cons_succ]
    refine wpAnyH_take (i := 1) (oi := _) (v := .bool false) rfl (by kernel_rfl) (by kernel_rfl) (by kernel_rfl) (fun _ _ _ h => h) (Or.inl ⟨by rfl, fun w' hw' => by go_simp⟩) hH ?_
    try simp only [Act.put, List.getElem_toArray, List.getElem_cons_zero, List.getElem_cons_succ, List.setIfInBounds_toArray, List.set_cons_zero, List.set_cons_succ]
    refine wpAnyH_take (i := 2) (oi := _) (v := .bool false) rfl (by kernel_rfl) (by kernel_rfl) (by kernel_rfl) (fun _ _ _ h => h) (Or.inl ⟨by rfl, fun w' hw' => by go_simp⟩) hH ?_
    try simp only [Act.put, List.getElem_toArray, List.getElem_cons_zero, List.getElem_cons_succ, List.setIfInBounds_toArray, List.set_cons_zero, List.set_cons_succ]
    refine wpAnyH_take (i := 3) (oi := _) (v := undef) rfl (by kernel_rfl) (by kernel_rfl) (by kernel_rfl) (fun _ _ _ h => h) (Or.inr ⟨by rfl, rfl⟩) hH ?_
    try simp only [Act.put, List.getElem_toArray, List.getElem_cons_zero, List.getElem_cons_succ, List.setIfInBounds_toArray, List.set_cons_zero, List.set_cons_succ]
    refine wpAnyH_take (i := 4) (oi := _) (v := undef) rfl (by kernel_rfl) (by kernel_rfl) (by kernel_rfl) (fun _ _ _ h => h) (Or.inr ⟨by rfl, rfl⟩) hH ?_
    try simp only [Act.put, List.getElem_toArray, List.getElem_cons_zero, List.getElem_cons_succ, List.setIfInBounds_toArray, List.set_cons_zero, List.set_cons_succ]
    refine wpAnyH_take (i := 5) (oi := _) (v := undef) rfl (by kernel_rfl) (by kernel_rfl) (by kernel_rfl) (fun _ _ _ h => h) (Or.inr ⟨by rfl, rfl⟩) hH ?_
    try simp only [Act.put, List.getElem_toArray, List.getElem_cons_zero, List.getElem_cons_succ, List.setIfInBounds_toArray, List.set_cons_zero, List.set_cons_succ]
    refine wpAnyH_take (i := 6) (oi := _) (v := undef) rfl (by kernel_rfl) (by kernel_rfl) (by kernel_rfl) (fun _ _ _ h => h) (Or.inr ⟨by rfl, rfl⟩) hH ?_
    try simp only [Act.put, List.getElem_toArray, List.getElem_cons_zero, List.getElem_cons_succ, List.setIfInBounds_toArray, List.set_cons_zero, List.set_cons_succ]
    refine wpAnyH_take (i := 7) (oi := _) (v := undef) rfl (by kernel_rfl) (by kernel_rfl) (by kernel_rfl) (fun _ _ _ h => h) (Or.inr ⟨by rfl, rfl⟩) hH ?_
    try simp only [Act.put, List.getElem_toArray, List.getElem_cons_zero, List.getElem_cons_succ, List.setIfInBounds_toArray, List.set_cons_zero, List.set_cons_succ]
    refine wpAnyH_take (i := 8) (oi := _) (v := .bool false) rfl (by kernel_rfl) (by kernel_rfl) (by kernel_rfl) (fun _ _ _ h => h) (Or.inl ⟨by rfl, fun w' hw' => by go_simp⟩) hH ?_
    try simp only [Act.put, List.getElem_toArray, List.getElem_cons_zero, List.getElem_cons_succ, List.setIfInBounds_toArray, List.set_cons_zero, List.set_cons_succ]
    refine wpAnyH_take (i := 9) (oi := _) (v := .bool false) rfl (by kernel_rfl) (by kernel_rfl) (by kernel_rfl) (fun _ _ _ h => h) (Or.inl ⟨by rfl, fun w' hw' => by go_simp⟩) hH ?_
    try simp only [Act.put, List.getElem_toArray, List.getElem_cons_zero, List.getElem_cons_succ, List.setIfInBounds_toArray, List.set_cons_zero, List.set_cons_succ]
    refine wpAnyH_done (by kernel_rfl) (NoPanic.normal ?_) _
    clear hH
    have B6 := hide (show Below w4.heap.size w4 (World.drew w4) from (Below.refl _ _).drew)
    have R6 := hide (R5.out.below B6.out)
    have K6 := hide (K5.out.below B6.out K5.out.lt)
    have hb6 : Below w.heap.size w (World.drew w4) := B5.out.drew
    have HB6 := hide hb6
    clear hb6
    go_wp2_with fail
    refine wp_region_noPanic ?_
    refine wp_region_held_drew (S := fun w' => Blk w' w.heap.size #[.int .i64 (l : Int), .int .i64 (r : Int)] 113) (by kernel_rfl) K6.out (fun hH => ?_)
    refine wpAnyH_take (i := 0) (oi := _) (v := .pointer (some ⟨b, 0, none⟩)) rfl (by kernel_rfl) (by kernel_rfl) (by kernel_rfl) (fun _ _ _ h => h) (Or.inl ⟨by rfl, fun w' hw' => by go_simp⟩) hH ?_
    try simp only [Act.put, List.getElem_toArray, List.getElem_cons_zero, List.getElem_cons_succ, List.setIfInBounds_toArray, List.set_cons_zero, List.set_cons_succ]
    refine wpAnyH_take (i := 1) (oi := _) (v := .pointer (some ⟨b, 0, none⟩)) rfl (by kernel_rfl) (by kernel_rfl) (by kernel_rfl) (fun _ _ _ h => h) (Or.inl ⟨by rfl, fun w' hw' => by go_simp⟩) hH ?_
    try simp only [Act.put, List.getElem_toArray, List.getElem_cons_zero, List.getElem_cons_succ, List.setIfInBounds_toArray, List.set_cons_zero, List.set_cons_succ]
    refine wpAnyH_take (i := 2) (oi := _) (v := .pointer (some ⟨b, 20, none⟩)) rfl (by kernel_rfl) (by kernel_rfl) (by kernel_rfl) (fun _ _ _ h => h) (Or.inl ⟨by rfl, fun w' hw' => by go_simp⟩) hH ?_
    try simp only [Act.put, List.getElem_toArray, List.getElem_cons_zero, List.getElem_cons_succ, List.setIfInBounds_toArray, List.set_cons_zero, List.set_cons_succ]
    refine wpAnyH_take (i := 3) (oi := _) (v := .agg #[.int .i64 (l : Int), .int .i64 (r : Int)]) rfl (by kernel_rfl) (by kernel_rfl) (by kernel_rfl) (fun _ _ _ h => h) (yieldsIf_load_mid (by rfl) 113 _ rfl w.heap.size 0 rfl [.int .i64 (l : Int), .int .i64 (r : Int)] _ (fun w' h => blk_two h) Tryd.underlying113 rfl infoSp) hH ?_
    try simp only [Act.put, List.getElem_toArray, List.getElem_cons_zero, List.getElem_cons_succ, List.setIfInBounds_toArray, List.set_cons_zero, List.set_cons_succ]
    refine wpAnyH_take (i := 4) (oi := _) (v := .pointer (some ⟨b, 0, none⟩)) rfl (by kernel_rfl) (by kernel_rfl) (by kernel_rfl) (fun _ _ _ h => h) (Or.inl ⟨by rfl, fun w' hw' => by go_simp⟩) hH ?_
    try simp only [Act.put, List.getElem_toArray, List.getElem_cons_zero, List.getElem_cons_succ, List.setIfInBounds_toArray, List.set_cons_zero, List.set_cons_succ]
    refine wpAnyH_take (i := 5) (oi := _) (v := .func (.func 79) #[.agg M] #[]) rfl (by kernel_rfl) (by kernel_rfl) (by kernel_rfl) (fun _ _ _ h => h) (Or.inl ⟨by rfl, fun w' hw' => by go_simp⟩) hH ?_
    try simp only [Act.put, List.getElem_toArray, List.getElem_cons_zero, List.getElem_cons_succ, List.setIfInBounds_toArray, List.set_cons_zero, List.set_cons_succ]
    refine wpAnyH_ready (rs := [6]) (by kernel_rfl) (by simp) ?_
    refine AllReadyH.cons (o := _) rfl ?_ AllReadyH.nil
    intro K hK
    go_simp
    rw [HMs.out.1]
    refine (layW_any ms _ HMs.out.2 (HG.out.below ((B5.out).drew.drew))).mono ?_
    rintro e w7 ⟨v7, rfl, o7, b7⟩
    obtain ⟨da, dc, rfl⟩ := own_shape o7
    obtain ⟨yn, hyn⟩ : ∃ yn, yn = (encW ms).length := ⟨_, rfl⟩
    have O7 := hide (And.intro o7 b7)
    have HYN := hide hyn
    rw [← hyn]
    clear o7 b7 hyn
    have B7 := hide (show Below w4.heap.size w4 w7 from ((Below.refl _ _).drew.drew).trans O7.out.2)
    refine hK.out _ _ (K5.out.below B7.out K5.out.lt) (fun hH => ?_)
    clear hK K
    try simp only [Act.put, List.getElem_toArray, List.getElem_cons_zero, List.getElem_cons_succ, List.setIfInBounds_toArray, List.set_cons_zero, List.set_cons_succ]
    refine wpAnyH_ready (rs := [7]) (by kernel_rfl) (by simp) ?_
    refine AllReadyH.cons (o := _) rfl ?_ AllReadyH.nil
    intro K hK
    go_simp
    refine (fresh_any W0 w4 _ b D da yn dc (encW ms) R5.out B7.out HYN.out (own_mono O7.out.1 (by simp)) HP.out).mono ?_
    rintro e w8 ⟨rfl, r8, y8, b8, c8⟩
    have R8 := hide (And.intro r8 (And.intro (show FrR b w w8 from (((FrR.refl b w).below B5.out).below B7.out).trans (FrR.of_fresh y8 b8 c8)) (show Below W0.heap.size w w8 from (((B5.out.mono HLO.out)).trans (B7.out.mono (Nat.le_trans HLO.out B5.out.size))).trans b8)))
    have k8 := (y8.blk (K5.out.below B7.out K5.out.lt) (by unfold TyF; decide))
    have K8 := hide k8
    clear r8 y8 b8 c8
    refine hK.out _ _ k8 (fun hH => ?_)
    clear hK K k8
    try simp only [Act.put, List.getElem_toArray, List.getElem_cons_zero, List.getElem_cons_succ, List.setIfInBounds_toArray, List.set_cons_zero, List.set_cons_succ]
    refine wpAnyH_ready (rs := [8]) (by kernel_rfl) (by simp) ?_
    refine AllReadyH.cons (o := _) rfl ?_ AllReadyH.nil
    intro K hK
    go_simp
    refine (setR_any W0 _ b l r (supN D.st) (D.fresh (encW ms)) R8.out.1 hl hr (by rw [fresh_Ln]; exact HL.out)).mono ?_
    rintro e w9 ⟨rfl, r9, y9, b9⟩
    have R9 := hide (And.intro r9 (And.intro (R8.out.2.1.trans y9) (R8.out.2.2.trans b9)))
    have k9 := (y9.blk K8.out (by unfold TyR; decide))
    clear r9 y9 b9
    refine hK.out _ _ k9 (fun hH => ?_)
    clear hK K k9
    try simp only [Act.put, List.getElem_toArray, List.getElem_cons_zero, List.getElem_cons_succ, List.setIfInBounds_toArray, List.set_cons_zero, List.set_cons_succ]
    refine wpAnyH_done (by kernel_rfl) (NoPanic.normal ?_) _
    clear hH
    go_wp2
    go_end0
    exact ⟨rfl, R9.out.1, R9.out.2.1, R9.out.2.2⟩
end Go.Proofs.YtnfgldglpfgmnaaDoor
