/- The law on Fingerprint, walked. -/
import Derived.Test.YtnbfpmmpmblmmaaGreatDoorZe47
import Derived.Test.YtnbfpmmpmblmmaaGreatDoorZe50
namespace Go.Proofs.YtnbfpmmpmblmmaaGreatDoor
set_option linter.unusedVariables false
set_option linter.unusedSimpArgs false
open Go.RowKit

set_option maxRecDepth 100000 in
set_option maxHeartbeats 8000000 in
theorem lawFp (C : Int) (v : Value) (L : List Nd) (us : List Value) (w : World) (h : RdN w 9 v (L.map ndE) us) (hbd : ∀ i, i < L.length → ∀ z ∈ (ndAt L i).d, 0 ≤ z ∧ z < 256) (hg : ErrT w) :
    Calls Tryz.prog 3 #[.agg #[.int .i64 C, v]] w fun e w' => e = .returned (.bool true) ∧ Below w.heap.size w w' := by
  obtain ⟨a, cap, rfl⟩ : ∃ a cap, v = .slice a L.length cap := by obtain ⟨a, cap, e, _⟩ := h.row; exact ⟨a, cap, by simpa using e⟩
  obtain ⟨N, hN⟩ : ∃ N, N = L.length := ⟨_, rfl⟩
  have HN := hide hN
  rw [← hN] at h ⊢
  have H := hide (And.intro h (And.intro hbd hg))
  have K0 := hide (And.intro (Blk.new w #[.int .i64 C, .slice a N cap] 24) (show Below w.heap.size w (w.alloc (.cells #[.int .i64 C, .slice a N cap] 24)) from (Below.refl _ _).alloc (Nat.le_refl _) _))
  clear h hbd hg hN
  go_enter Tryz.func3, Tryz.ntmps3
  go_wp2_with (first | (refine wpList_load_row rfl 24 _ rfl w.heap.size rfl 24 #[.int .i64 C, .slice a N cap] (0, 0) _ K0.out.1 Tryz.underlying24 rfl infoStL ?_) | fail)
  refine (szState_any C _ L us _ (H.out.1.below K0.out.2)).mono ?_
  rintro e w1 ⟨l, rfl, hl, b1⟩
  have K1 := hide (And.intro (K0.out.1.below b1 K0.out.1.lt) (K0.out.2.trans (b1.mono K0.out.2.size)))
  clear b1 K0
  by_cases hl0 : l < 0
  · go_wp2
    go_ret
    exact ⟨rfl, K1.out.2⟩
  · obtain ⟨hq, hT⟩ := hl (by omega)
    have HB := hide (And.intro hq (And.intro (show ∀ i, i < L.length → (ndAt L i).d.length ≤ 1048576 from fun i hi => Nat.le_trans (nd_tot L i hi) hT) (show totN L ≤ 1099511627776 by omega)))
    clear hl hT hq
    go_wp2_with (first | (refine wpList_load_row rfl 24 _ rfl w.heap.size rfl 24 #[.int .i64 C, .slice a N cap] (0, 0) _ K1.out.1 Tryz.underlying24 rfl infoStL ?_) | fail)
    refine (toState_any C _ L us _ (H.out.1.below K1.out.2) HB.out.1 HB.out.2.1).mono ?_
    rintro e w2 ⟨v1, vs1, rfl, o1, b2⟩
    obtain ⟨a1, c1, rfl⟩ : ∃ a c, v1 = .slice a N c := by obtain ⟨x, y, e⟩ := o1.shape; exact ⟨x, y, by rw [HN.out]; simpa using e⟩
    have K2 := hide (And.intro (K1.out.1.below b2 K1.out.1.lt) (K1.out.2.trans (b2.mono K1.out.2.size)))
    have R1 := hide o1.rd
    clear b2 o1 K1
    go_wp2_with fail
    refine (specFp_any C _ L vs1 _ R1.out HB.out.1 H.out.2.1).mono ?_
    rintro e w3 ⟨pw, rfl, hw1, hw2, b3⟩
    have K3 := hide (And.intro (K2.out.1.below b3 K2.out.1.lt) (K2.out.2.trans (b3.mono K2.out.2.size)))
    have HW := hide (And.intro hw1 hw2)
    clear b3 K2 R1 hw1 hw2
    go_wp2_with (first | (refine wpList_load_row rfl 24 _ rfl w.heap.size rfl 24 #[.int .i64 C, .slice a N cap] (0, 0) _ K3.out.1 Tryz.underlying24 rfl infoStL ?_) | fail)
    refine (toState_any C _ L us _ (H.out.1.below K3.out.2) HB.out.1 HB.out.2.1).mono ?_
    rintro e w4 ⟨vx, vsx, rfl, ox, b4⟩
    obtain ⟨ax, cx, rfl⟩ : ∃ a c, vx = .slice a N c := by obtain ⟨x, y, e⟩ := ox.shape; exact ⟨x, y, by rw [HN.out]; simpa using e⟩
    have K4 := hide (And.intro (K3.out.1.below b4 K3.out.1.lt) (K3.out.2.trans (b4.mono K3.out.2.size)))
    have X4 := hide ox
    clear b4 ox K3
    have KX := hide (show Blk (w4.alloc (.cells #[.int .i64 0, .slice none 0 0] 31)) w4.heap.size #[.int .i64 0, .slice none 0 0] 31 ∧ Below w4.heap.size w4 (w4.alloc (.cells #[.int .i64 0, .slice none 0 0] 31)) from ⟨Blk.new _ _ _, (Below.refl _ _).alloc (Nat.le_refl _) _⟩)
    go_wp2_with (first | (refine wpList_store_row rfl 31 _ _ rfl w4.heap.size #[.int .i64 C, .slice ax N cx] rfl rfl 31 _ KX.out.1 infoStP rfl (oneSt _ _ _ _) ?_) | (refine wpList_load_row rfl 31 _ rfl w4.heap.size rfl 31 #[.int .i64 C, .slice ax N cx] (0, 0) _ (KX.out.1.row _) Tryz.underlying31 rfl infoStP ?_) | fail)
    have b5 := hide (below_setRowS KX.out.2 (Nat.le_refl _) #[.int .i64 C, .slice ax N cx])
    have K5 := hide (show Blk ((w4.alloc (.cells #[.int .i64 0, .slice none 0 0] 31)).setRow w4.heap.size #[.int .i64 C, .slice ax N cx]) w4.heap.size #[.int .i64 C, .slice ax N cx] 31 from KX.out.1.row _)
    generalize (w4.alloc (.cells #[.int .i64 0, .slice none 0 0] 31)).setRow w4.heap.size #[.int .i64 C, .slice ax N cx] = w5 at b5 K5 ⊢
    obtain ⟨bx, hbx⟩ : ∃ bx, bx = w4.heap.size := ⟨_, rfl⟩
    rw [← hbx] at K5 ⊢
    have B5 := hide (And.intro (K4.out.1.below b5.out K4.out.1.lt) (K4.out.2.trans (b5.out.mono K4.out.2.size)))
    have X5 := hide (X4.out.below b5.out)
    clear hbx
    refine (implFp_any C (.slice ax N cx) L vsx _ X5.out.rd HB.out.2.2 HB.out.1 H.out.2.1 X5.out.nilV (H.out.2.2.below B5.out.2)).mono ?_
    rintro e w6 ⟨pg, rfl, hg1, hg2, b6⟩
    have eg : pg = pw := fp_same hg1 hg2 HW.out.1 HW.out.2
    subst eg
    obtain ⟨z1, hz1⟩ : ∃ z, z = pg.1 := ⟨_, rfl⟩
    obtain ⟨z2, hz2⟩ : ∃ z, z = pg.2 := ⟨_, rfl⟩
    rw [← hz1, ← hz2]
    clear hz1 hz2
    have hc1 : (z1 != z1) = false := by simp
    have hc2 : (z2 != z2) = false := by simp
    have B6 := hide (show Blk w6 w.heap.size #[.int .i64 C, .slice a N cap] 24 ∧ Blk w6 bx #[.int .i64 C, .slice ax N cx] 31 ∧ Below w.heap.size w w6 from ⟨B5.out.1.below b6 B5.out.1.lt, K5.out.below b6 K5.out.lt, B5.out.2.trans (b6.mono B5.out.2.size)⟩)
    have X6 := hide (X5.out.below b6)
    clear b6 b5 B5 X5 K5 K4 KX X4 hg1 hg2 HW
    go_wp2_with fail
    refine wp_region_noPanic ?_
    refine wp_region_held_drew (S := fun w' => Blk w' bx #[.int .i64 C, .slice ax N cx] 31 ∧ Blk w' w.heap.size #[.int .i64 C, .slice a N cap] 24) (by kernel_rfl) ⟨B6.out.2.1, B6.out.1⟩ (fun hH => ?_)
    refine wpAnyH_take (i := 0) (oi := _) (v := .agg #[.int .i64 C, .slice ax N cx]) rfl (by kernel_rfl) (by kernel_rfl) (by kernel_rfl) (fun _ _ _ h => h) (yieldsIf_load_mid (by rfl) 31 _ rfl bx 0 rfl [.int .i64 C, .slice ax N cx] _ (fun w' h => st_full h.1) Tryz.underlying31 rfl infoStP) hH ?_
    try simp only [Act.put, List.getElem_toArray, List.getElem_cons_zero, List.getElem_cons_succ, List.setIfInBounds_toArray, List.set_cons_zero, List.set_cons_succ]
    refine wpAnyH_take (i := 1) (oi := _) (v := .agg #[.int .i64 C, .slice a N cap]) rfl (by kernel_rfl) (by kernel_rfl) (by kernel_rfl) (fun _ _ _ h => h) (yieldsIf_load_mid (by rfl) 24 _ rfl w.heap.size 0 rfl [.int .i64 C, .slice a N cap] _ (fun w' h => st_full h.2) Tryz.underlying24 rfl infoStL) hH ?_
    try simp only [Act.put, List.getElem_toArray, List.getElem_cons_zero, List.getElem_cons_succ, List.setIfInBounds_toArray, List.set_cons_zero, List.set_cons_succ]
    have BD := hide (show Below w6.heap.size w6 w6.drew from (Below.refl _ _).drew)
    refine wpAnyH_ready (rs := [2]) (by kernel_rfl) (by simp) ?_
    refine AllReadyH.cons (o := _) rfl (fun K hK => ?_) AllReadyH.nil
    go_simp
    refine (toState_any C _ L us _ (H.out.1.below (B6.out.2.2.trans (BD.out.mono B6.out.2.2.size))) HB.out.1 HB.out.2.1).mono ?_
    rintro e w8 ⟨v8, vs8, rfl, o8, b8⟩
    have B8 := hide (BD.out.trans b8)
    have R8 := hide o8.rd
    clear o8 b8
    have S8 := hide (And.intro (B6.out.2.1.below B8.out B6.out.2.1.lt) (B6.out.1.below B8.out B6.out.1.lt))
    refine hK.out _ _ S8.out (fun hH => ?_)
    clear hK K
    try simp only [Act.put, List.getElem_toArray, List.getElem_cons_zero, List.getElem_cons_succ, List.setIfInBounds_toArray, List.set_cons_zero, List.set_cons_succ]
    refine wpAnyH_ready (rs := [3]) (by kernel_rfl) (by simp) ?_
    refine AllReadyH.cons (o := _) rfl (fun K hK => ?_) AllReadyH.nil
    go_simp
    refine (eqState_same C (.slice ax N cx) v8 L vsx vs8 _ (X6.out.below B8.out).rd R8.out).mono ?_
    rintro e w9 ⟨rfl, b9⟩
    have B9 := hide (B8.out.trans (b9.mono B8.out.size))
    refine hK.out _ _ ⟨B6.out.2.1.below B9.out B6.out.2.1.lt, B6.out.1.below B9.out B6.out.1.lt⟩ (fun hH => ?_)
    clear hK K b9 B8 S8 R8
    try simp only [Act.put, List.getElem_toArray, List.getElem_cons_zero, List.getElem_cons_succ, List.setIfInBounds_toArray, List.set_cons_zero, List.set_cons_succ]
    refine wpAnyH_take (i := 4) (oi := _) (v := .bool false) rfl (by kernel_rfl) (by kernel_rfl) (by kernel_rfl) (fun _ _ _ h => h) (Or.inl ⟨by rfl, fun w' hw' => by go_simp⟩) hH ?_
    try simp only [Act.put, List.getElem_toArray, List.getElem_cons_zero, List.getElem_cons_succ, List.setIfInBounds_toArray, List.set_cons_zero, List.set_cons_succ]
    refine wpAnyH_done (by kernel_rfl) (NoPanic.normal ?_) _
    clear hH
    have K9 := hide (B6.out.2.2.trans (B9.out.mono B6.out.2.2.size))
    clear B6 X6 B9 BD
    go_wp2
    go_ret
    exact ⟨rfl, K9.out⟩
end Go.Proofs.YtnbfpmmpmblmmaaGreatDoor
