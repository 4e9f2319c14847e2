/- The law on DecodeOp, walked. -/
import Derived.Test.YthkoflpcinbgeaaDoorZo45
import Derived.Test.YthkoflpcinbgeaaDoorZo24
import Derived.Test.YthkoflpcinbgeaaDoorZo46
namespace Go.Proofs.YthkoflpcinbgeaaDoor
set_option linter.unusedVariables false
set_option linter.unusedSimpArgs false
open Go.RowKit

theorem specDO_lit (v : Value) (zs : List Int) (w : World) (h : Rd .u8 w v zs) (hbd : ∀ z ∈ zs, 0 ≤ z ∧ z < 256) (hzl : zs.length ≤ 1048576) :
    Calls Tryd.prog 15 #[v] w fun e w' => ∃ (K A B U G : Int) (p q : ByteArray) (dv : Value) (ds : List Int) (code : Int), e = .returned (.tuple #[.agg #[.int .i64 K, .int .i64 A, .int .i64 B, .int .i64 U, .int .i64 G, .string p, .string q, dv], .int .i64 code]) ∧ IsDec zs K A B U G p q ds code ∧ w'.ownsRow w.heap.size 5 1 dv ds.length (ds.map (Value.int .u8)) ∧ Below w.heap.size w w' := specDO_any v zs w h hbd hzl
theorem implDO_lit (v : Value) (zs : List Int) (w : World) (h : Rd .u8 w v zs) (hbd : ∀ z ∈ zs, 0 ≤ z ∧ z < 256) (hzl : zs.length ≤ 1048576) (hg : ErrT w) :
    Calls Tryd.prog 17 #[v] w fun e w' => ∃ (K A B U G : Int) (p q : ByteArray) (dv : Value) (ds : List Int) (code : Int), e = .returned (.tuple #[.agg #[.int .i64 K, .int .i64 A, .int .i64 B, .int .i64 U, .int .i64 G, .string p, .string q, dv], .int .i64 code]) ∧ IsDec zs K A B U G p q ds code ∧ w'.ownsRow w.heap.size 5 1 dv ds.length (ds.map (Value.int .u8)) ∧ Below w.heap.size w w' := implDO_any v zs w h hbd hzl hg
set_option maxRecDepth 100000 in
set_option maxHeartbeats 4000000 in
theorem lawDecO (v : Value) (zs : List Int) (w : World) (h : Rd .u8 w v zs) (hbd : ∀ z ∈ zs, 0 ≤ z ∧ z < 256) (hg : ErrT w) :
    Calls Tryd.prog 4 #[v] w fun x w' => x = .returned (.bool true) ∧ Below w.heap.size w w' := by
  have HR := hide h
  have HB := hide hbd
  have HE := hide hg
  have hm := h.len
  unfold maxLen at hm
  obtain ⟨a, cap, rfl⟩ : ∃ a cap, v = .slice a zs.length cap := by obtain ⟨a, cap, h1, _⟩ := h; exact ⟨a, cap, h1⟩
  clear h hbd hg
  by_cases hbig : (1048576 : Int) < (zs.length : Int)
  · go_enter Tryd.func4, Tryd.ntmps4
    go_wp2
    go_ret
    exact ⟨rfl, Below.refl _ _⟩
  have hn : zs.length ≤ 1048576 := by omega
  have HN := hide hn
  obtain ⟨M2, hM2⟩ : ∃ K : Nat, K = 1 + zs.length := ⟨_, rfl⟩
  have hMb2 : M2 ≤ 1048577 := by omega
  have HM2 := hide hM2
  clear hM2
  go_enter Tryd.func4, Tryd.ntmps4
  go_wp2_with (go_at_call 16; fail)
  refine (toByteS_any _ zs _ HR.out (by omega)).mono ?_
  rintro x w1 ⟨v1, rfl, o1, b1⟩
  have R1 := hide (Rd.own o1)
  have B1 := hide b1
  clear o1 b1
  go_wp2_with (go_at_call 15; fail)
  refine (specDO_lit v1 zs _ R1.out HB.out HN.out).mono ?_
  rintro x w2 ⟨K, A, B, U, G, p, q, dv2, ds, code, rfl, D2, o2, b2⟩
  obtain ⟨a2, c2, rfl⟩ : ∃ a c, dv2 = .slice a ds.length c := by obtain ⟨a, c, e, _⟩ := Rd.own o2; exact ⟨a, c, e⟩
  have HD := hide D2
  have B2 := hide (B1.out.trans (b2.mono B1.out.size))
  have O2 := hide o2
  have hdl : ds.length ≤ 4096 := (isDec_len D2).2.2
  obtain ⟨M, hM⟩ : ∃ K : Nat, K = 1 + ds.length := ⟨_, rfl⟩
  have hMb : M ≤ 4097 := by omega
  have HM := hide hM
  have hcc : (code != code) = false := by simp
  have l12 := hide (Nat.le_trans B1.out.size b2.size)
  clear D2 o2 b2 hM R1 B1
  have bA := (Below.refl w2.heap.size w2).alloc (Nat.le_refl _) (.cells #[.int .i64 K, .int .i64 A, .int .i64 B, .int .i64 U, .int .i64 G, .string p, .string q, .slice a2 ds.length c2] 28)
  have B3 := hide (show Below w.heap.size w (w2.alloc (.cells #[.int .i64 K, .int .i64 A, .int .i64 B, .int .i64 U, .int .i64 G, .string p, .string q, .slice a2 ds.length c2] 28)) from B2.out.alloc B2.out.size _)
  have KS3 := hide (Blk.new w2 #[.int .i64 K, .int .i64 A, .int .i64 B, .int .i64 U, .int .i64 G, .string p, .string q, .slice a2 ds.length c2] 28)
  have O3 := hide (own_below O2.out bA)
  have LO := hide (fun k hk => (O2.out.lt k hk).2)
  have l3 := hide (show (w2.alloc (.cells #[.int .i64 K, .int .i64 A, .int .i64 B, .int .i64 U, .int .i64 G, .string p, .string q, .slice a2 ds.length c2] 28)).heap.size = w2.heap.size + 1 from by simp)
  clear bA O2 B2
  go_wp2_with (go_at_call 16; fail)
  refine (toByteS_any _ zs _ (HR.out.below B3.out) (by omega)).mono ?_
  rintro x w4 ⟨v4, rfl, o4, b4⟩
  rw [l3.out] at o4
  have X4 := hide o4
  have B4 := hide (B3.out.trans (b4.mono B3.out.size))
  have KS4 := hide (KS3.out.below b4 KS3.out.lt)
  have O4 := hide (own_below O3.out b4)
  have LX := hide (fun k hk => (o4.lt k hk).2)
  have l4 := hide (show w2.heap.size + 1 ≤ w4.heap.size from by have := b4.size; rw [l3.out] at this; exact this)
  clear o4 b4 B3 KS3 O3 l3
  go_wp2_with (go_at_call 17; fail)
  refine (implDO_lit v4 zs _ (Rd.own X4.out) HB.out HN.out (HE.out.below B4.out)).mono ?_
  rintro x w5 ⟨K', A', B', U', G', p', q', dv5, ds', code', rfl, D5, o5, b5⟩
  obtain ⟨rfl, rfl, rfl, rfl, rfl, rfl, rfl, rfl, rfl⟩ := HD.out.one D5
  obtain ⟨a5, c5, rfl⟩ : ∃ a c, dv5 = .slice a ds.length c := by obtain ⟨a, c, e, _⟩ := Rd.own o5; exact ⟨a, c, e⟩
  have bA := (Below.refl w5.heap.size w5).alloc (Nat.le_refl _) (.cells #[.int .i64 K, .int .i64 A, .int .i64 B, .int .i64 U, .int .i64 G, .string p, .string q, .slice a5 ds.length c5] 28)
  have B5 := hide ((B4.out.trans (b5.mono B4.out.size)).alloc (B4.out.trans (b5.mono B4.out.size)).size (.cells #[.int .i64 K, .int .i64 A, .int .i64 B, .int .i64 U, .int .i64 G, .string p, .string q, .slice a5 ds.length c5] 28))
  have KS5 := hide ((KS4.out.below b5 KS4.out.lt).alloc (.cells #[.int .i64 K, .int .i64 A, .int .i64 B, .int .i64 U, .int .i64 G, .string p, .string q, .slice a5 ds.length c5] 28))
  have KJ5 := hide (Blk.new w5 #[.int .i64 K, .int .i64 A, .int .i64 B, .int .i64 U, .int .i64 G, .string p, .string q, .slice a5 ds.length c5] 28)
  have O5 := hide (own_below (own_below O4.out b5) bA)
  have X5 := hide (own_below (own_below X4.out b5) bA)
  have G5 := hide (own_below o5 bA)
  have LG := hide (fun k hk => (o5.lt k hk).2)
  have l5 := hide b5.size
  clear D5 o5 b5 bA B4 KS4 O4 X4
  go_wp2_with (first | (refine wpList_load_row rfl 28 _ rfl w5.heap.size rfl 28 #[.int .i64 K, .int .i64 A, .int .i64 B, .int .i64 U, .int .i64 G, .string p, .string q, .slice a5 ds.length c5] (0, 0) _ KJ5.out Tryd.underlying28 rfl infoO8 ?_) | (refine wpList_load_row rfl 28 _ rfl w2.heap.size rfl 28 #[.int .i64 K, .int .i64 A, .int .i64 B, .int .i64 U, .int .i64 G, .string p, .string q, .slice a2 ds.length c2] (0, 0) _ KS5.out Tryd.underlying28 rfl infoO8 ?_) | (go_at_call 11; fail))
  refine (eqOp_same K A B U G p q _ _ ds _ (Rd.own G5.out) (Rd.own O5.out)).mono ?_
  rintro x w6 ⟨rfl, b6⟩
  have KS6 := hide (KS5.out.below b6 KS5.out.lt)
  have KJ6 := hide (KJ5.out.below b6 KJ5.out.lt)
  have B6 := hide (B5.out.trans (b6.mono B5.out.size))
  have O6 := hide (own_below O5.out b6)
  have X6 := hide (own_below X5.out b6)
  have G6 := hide (own_below G5.out b6)
  clear b6 KS5 KJ5 B5 O5 X5 G5
  go_wp2_with (go_at_call 16; fail)
  refine (toByteS_any _ zs _ (HR.out.below B6.out) (by omega)).mono ?_
  rintro x w7 ⟨v7, rfl, o7, b7⟩
  have R7 := hide (Rd.own o7)
  clear o7
  have KS7 := hide (KS6.out.below b7 KS6.out.lt)
  have KJ7 := hide (KJ6.out.below b7 KJ6.out.lt)
  have B7 := hide (B6.out.trans (b7.mono B6.out.size))
  have O7 := hide (own_below O6.out b7)
  have X7 := hide (own_below X6.out b7)
  have G7 := hide (own_below G6.out b7)
  clear b7 KS6 KJ6 B6 O6 X6 G6
  go_wp2_with (go_at_call 10; fail)
  refine (eqByteS_same v4 v7 zs _ (Rd.own X7.out) R7.out).mono ?_
  rintro x w8 ⟨rfl, b8⟩
  clear R7
  have KS8 := hide (KS7.out.below b8 KS7.out.lt)
  have KJ8 := hide (KJ7.out.below b8 KJ7.out.lt)
  have B8 := hide (B7.out.trans (b8.mono B7.out.size))
  have O8 := hide (own_below O7.out b8)
  have X8 := hide (own_below X7.out b8)
  have G8 := hide (own_below G7.out b8)
  clear b8 KS7 KJ7 B7 O7 X7 G7
  go_wp2_with (go_at_call 13; fail)
  refine (markByteS_any v4 _ zs.length 1 _ _ X8.out (by omega) (by omega)).mono ?_
  rintro e w9 ⟨he, o9, g9⟩
  rw [← HM2.out] at he
  subst he
  have KS9 := hide (show Blk w9 w2.heap.size #[.int .i64 K, .int .i64 A, .int .i64 B, .int .i64 U, .int .i64 G, .string p, .string q, .slice a2 ds.length c2] 28 from (g9.block _ KS8.out.lt (fun e => by have h1 := (X8.out.lt _ e.symm).1; omega)).trans KS8.out)
  have KJ9 := hide (show Blk w9 w5.heap.size #[.int .i64 K, .int .i64 A, .int .i64 B, .int .i64 U, .int .i64 G, .string p, .string q, .slice a5 ds.length c5] 28 from (g9.block _ KJ8.out.lt (fun e => by have h1 := LX.out _ e.symm; have h2 := l5.out; omega)).trans KJ8.out)
  have O9 := hide (O8.out.kept g9 (apart' w2.heap.size LO.out (fun k hk => by have := (X8.out.lt k hk).1; omega)))
  have G9 := hide (G8.out.kept g9 (apart w4.heap.size (fun k hk => (G8.out.lt k hk).1) LX.out))
  have B9 := hide (B8.out.grown g9 B8.out.size (fun k hk => by have h1 := (X8.out.lt k hk).1; have h2 := l12.out; omega))
  have hk1 : decide ((M2 : Int) < 0) = false := by simp
  clear o9 g9 KS8 KJ8 O8 X8 G8 B8
  go_wp2_with (first | (refine wpList_load_midG (by first | rfl | simp [Region.wanted, yielded]) 28 _ rfl w5.heap.size 0 rfl (#[.int .i64 K, .int .i64 A, .int .i64 B, .int .i64 U, .int .i64 G, .string p, .string q, .slice a5 ds.length c5] : Array Value).toList _ (blk_rangeO KJ9.out) Tryd.underlying28 rfl infoO8 ?_) | (refine wpList_load_midG (by first | rfl | simp [Region.wanted, yielded]) 28 _ rfl w2.heap.size 0 rfl (#[.int .i64 K, .int .i64 A, .int .i64 B, .int .i64 U, .int .i64 G, .string p, .string q, .slice a2 ds.length c2] : Array Value).toList _ (blk_rangeO KS9.out) Tryd.underlying28 rfl infoO8 ?_) | (go_at_call 11; fail))
  refine (eqOp_same K A B U G p q _ _ ds _ (Rd.own G9.out) (Rd.own O9.out)).mono ?_
  rintro x wA ⟨rfl, bA⟩
  clear hk1
  have KSA := hide (KS9.out.below bA KS9.out.lt)
  have KJA := hide (KJ9.out.below bA KJ9.out.lt)
  have BA := hide (B9.out.trans (bA.mono B9.out.size))
  have OA := hide (own_below O9.out bA)
  have GA := hide (own_below G9.out bA)
  clear bA KS9 KJ9 B9 O9 G9
  go_wp2_with (first | (refine wpList_load_row rfl 28 _ rfl w5.heap.size rfl 28 #[.int .i64 K, .int .i64 A, .int .i64 B, .int .i64 U, .int .i64 G, .string p, .string q, .slice a5 ds.length c5] (0, 0) _ KJA.out Tryd.underlying28 rfl infoO8 ?_) | (go_at_call 12; fail))
  refine (markOp_any K A B U G p q (.slice a5 ds.length c5) w4.heap.size ds.length 1 _ _ GA.out (by omega) (by omega)).mono ?_
  rintro e wB ⟨he, oB, gB⟩
  rw [← HM.out] at he
  subst he
  have GB := hide oB
  have KSB := hide (show Blk wB w2.heap.size #[.int .i64 K, .int .i64 A, .int .i64 B, .int .i64 U, .int .i64 G, .string p, .string q, .slice a2 ds.length c2] 28 from (gB.block _ KSA.out.lt (fun e => by have h1 := (GA.out.lt _ e.symm).1; have h2 := l4.out; omega)).trans KSA.out)
  have KJB := hide (show Blk wB w5.heap.size #[.int .i64 K, .int .i64 A, .int .i64 B, .int .i64 U, .int .i64 G, .string p, .string q, .slice a5 ds.length c5] 28 from (gB.block _ KJA.out.lt (fun e => by have h1 := LG.out _ e.symm; omega)).trans KJA.out)
  have OB := hide (OA.out.kept gB (apart' w2.heap.size LO.out (fun k hk => by have h1 := (GA.out.lt k hk).1; have h2 := l4.out; omega)))
  have BB := hide (BA.out.grown gB BA.out.size (fun k hk => by have h1 := (GA.out.lt k hk).1; have h2 := l12.out; have h3 := l4.out; omega))
  clear oB gB KSA KJA OA GA BA
  go_wp2_with (first | (refine wpList_load_row rfl 28 _ rfl w5.heap.size rfl 28 #[.int .i64 K, .int .i64 A, .int .i64 B, .int .i64 U, .int .i64 G, .string p, .string q, .slice a5 ds.length c5] (0, 0) _ KJB.out Tryd.underlying28 rfl infoO8 ?_) | (go_at_call 18; fail))
  refine (heldOp_any K A B U G p q (.slice a5 ds.length c5) ds.length 1 _ (Rd.own GB.out) (by omega) (by omega)).mono ?_
  rintro e wC ⟨he, bC⟩
  rw [← HM.out] at he
  subst he
  have KSC := hide (KSB.out.below bC KSB.out.lt)
  have KJC := hide (KJB.out.below bC KJB.out.lt)
  have BC := hide (BB.out.trans (bC.mono BB.out.size))
  have OC := hide (own_below OB.out bC)
  have GC := hide (own_below GB.out bC)
  clear bC KSB KJB BB OB GB
  go_wp2_with (go_at_call 16; fail)
  refine (toByteS_any _ zs _ (HR.out.below BC.out) (by omega)).mono ?_
  rintro x wD ⟨vD, rfl, oD, bD⟩
  have RD := hide (Rd.own oD)
  clear oD
  have KSD := hide (KSC.out.below bD KSC.out.lt)
  have KJD := hide (KJC.out.below bD KJC.out.lt)
  have BD := hide (BC.out.trans (bD.mono BC.out.size))
  have OD := hide (own_below OC.out bD)
  have GD := hide (own_below GC.out bD)
  clear bD KSC KJC BC OC GC
  go_wp2_with (go_at_call 17; fail)
  refine (implDO_lit vD zs _ RD.out HB.out HN.out (HE.out.below BD.out)).mono ?_
  rintro x wE ⟨K', A', B', U', G', p', q', dv9, ds', code', rfl, D9, o9, b9⟩
  obtain ⟨rfl, rfl, rfl, rfl, rfl, rfl, rfl, rfl, rfl⟩ := HD.out.one D9
  obtain ⟨a9, c9, rfl⟩ : ∃ a c, dv9 = .slice a ds.length c := by obtain ⟨a, c, e, _⟩ := Rd.own o9; exact ⟨a, c, e⟩
  have bA := (Below.refl wE.heap.size wE).alloc (Nat.le_refl _) (.cells #[.int .i64 K, .int .i64 A, .int .i64 B, .int .i64 U, .int .i64 G, .string p, .string q, .slice a9 ds.length c9] 28)
  have BE := hide ((BD.out.trans (b9.mono BD.out.size)).alloc (BD.out.trans (b9.mono BD.out.size)).size (.cells #[.int .i64 K, .int .i64 A, .int .i64 B, .int .i64 U, .int .i64 G, .string p, .string q, .slice a9 ds.length c9] 28))
  have KSE := hide ((KSD.out.below b9 KSD.out.lt).alloc (.cells #[.int .i64 K, .int .i64 A, .int .i64 B, .int .i64 U, .int .i64 G, .string p, .string q, .slice a9 ds.length c9] 28))
  have KJE := hide ((KJD.out.below b9 KJD.out.lt).alloc (.cells #[.int .i64 K, .int .i64 A, .int .i64 B, .int .i64 U, .int .i64 G, .string p, .string q, .slice a9 ds.length c9] 28))
  have KHE := hide (Blk.new wE #[.int .i64 K, .int .i64 A, .int .i64 B, .int .i64 U, .int .i64 G, .string p, .string q, .slice a9 ds.length c9] 28)
  have OE := hide (own_below (own_below OD.out b9) bA)
  have GE := hide (own_below (own_below GD.out b9) bA)
  have HE9 := hide (own_below o9 bA)
  clear D9 o9 b9 bA BD KSD KJD OD GD RD
  go_wp2_with (first | (refine wpList_load_row rfl 28 _ rfl wE.heap.size rfl 28 #[.int .i64 K, .int .i64 A, .int .i64 B, .int .i64 U, .int .i64 G, .string p, .string q, .slice a9 ds.length c9] (0, 0) _ KHE.out Tryd.underlying28 rfl infoO8 ?_) | (refine wpList_load_row rfl 28 _ rfl w2.heap.size rfl 28 #[.int .i64 K, .int .i64 A, .int .i64 B, .int .i64 U, .int .i64 G, .string p, .string q, .slice a2 ds.length c2] (0, 0) _ KSE.out Tryd.underlying28 rfl infoO8 ?_) | (go_at_call 11; fail))
  refine (eqOp_same K A B U G p q _ _ ds _ (Rd.own HE9.out) (Rd.own OE.out)).mono ?_
  rintro x wF ⟨rfl, bF⟩
  clear HE9 KHE
  have KSF := hide (KSE.out.below bF KSE.out.lt)
  have KJF := hide (KJE.out.below bF KJE.out.lt)
  have BF := hide (BE.out.trans (bF.mono BE.out.size))
  have OF := hide (own_below OE.out bF)
  have GF := hide (own_below GE.out bF)
  clear bF KSE KJE BE OE GE
  go_wp2_with (first | (refine wpList_load_row rfl 28 _ rfl w5.heap.size rfl 28 #[.int .i64 K, .int .i64 A, .int .i64 B, .int .i64 U, .int .i64 G, .string p, .string q, .slice a5 ds.length c5] (0, 0) _ KJF.out Tryd.underlying28 rfl infoO8 ?_) | (go_at_call 18; fail))
  refine (heldOp_any K A B U G p q (.slice a5 ds.length c5) ds.length 1 _ (Rd.own GF.out) (by omega) (by omega)).mono ?_
  rintro e wG ⟨he, bG⟩
  rw [← HM.out] at he
  subst he
  have BG := hide (BF.out.trans (bG.mono BF.out.size))
  clear bG BF
  go_wp2
  go_ret
  exact ⟨rfl, BG.out⟩
end Go.Proofs.YthkoflpcinbgeaaDoor
