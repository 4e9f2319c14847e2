/- The law on LogRecord, walked. -/
import Derived.Test.YthkoflpcinbgeaaDoorLogR
import Derived.Test.YthkoflpcinbgeaaDoorLogF
import Derived.Test.YthkoflpcinbgeaaDoorApart
import Derived.Deep.RegionHeld
import Derived.Deep.MidRow
import Derived.Deep.RegionHeld3
namespace Go.Proofs.YthkoflpcinbgeaaDoor
set_option linter.unusedVariables false
set_option linter.unusedSimpArgs false
open Go.RowKit

theorem op_rangeR {w : World} {b : Nat} {C : Array Value} {t : TypeId} (h : Blk w b C t) : w.rangeAt b 0 C.toList := by
  intro j v hv
  rw [h.cell (0 + j), Nat.zero_add]
  simpa using hv
set_option maxRecDepth 100000 in
set_option maxHeartbeats 4000000 in
theorem lawRec (n : Int) (K A B U G : Int) (p q : ByteArray) (v : Value) (zs : List Int) (w : World) (h : Rd .u8 w v zs) (hbd : ∀ z ∈ zs, 0 ≤ z ∧ z < 256) (hp : p.size ≤ maxLen) (hq : q.size ≤ maxLen) (hg : ErrT w) :
    Calls Tryd.prog 5 #[.int .i64 n, .agg #[.int .i64 K, .int .i64 A, .int .i64 B, .int .i64 U, .int .i64 G, .string p, .string q, v]] w fun x w' => x = .returned (.bool true) ∧ Below w.heap.size w w' := by
  have HR := hide h
  have HN := hide (And.intro hp hq)
  have HE := hide hg
  have hsh : ∃ a cap, v = .slice a zs.length cap := by obtain ⟨a, cap, h1, _⟩ := h; exact ⟨a, cap, h1⟩
  obtain ⟨a, cap, rfl⟩ := hsh
  have HS := hide (fun (w : World) (dv : Value) (h : Rd .u8 w dv zs) => specLR_any n K A B U G p q dv zs w h hbd HN.out.1 HN.out.2)
  have HI := hide (fun (w : World) (dv : Value) (h : Rd .u8 w dv zs) (hg : ErrT w) => implLR_any n K A B U G p q dv zs w h hbd HN.out.1 HN.out.2 hg)
  have hel := encL_len n K A B U G p q zs
  clear h hp hq hg hbd
  have B0 := hide (show Below w.heap.size w (w.alloc (.cells #[.int .i64 K, .int .i64 A, .int .i64 B, .int .i64 U, .int .i64 G, .string p, .string q, .slice a zs.length cap] 24)) from (Below.refl _ _).alloc (Nat.le_refl _) _)
  have K0 := hide (Blk.new w #[.int .i64 K, .int .i64 A, .int .i64 B, .int .i64 U, .int .i64 G, .string p, .string q, .slice a zs.length cap] 24)
  go_enter Tryd.func5, Tryd.ntmps5
  go_wp2_with (first | (refine wpList_load_row rfl 24 _ rfl w.heap.size rfl 24 #[.int .i64 K, .int .i64 A, .int .i64 B, .int .i64 U, .int .i64 G, .string p, .string q, .slice a zs.length cap] (0, 0) _ K0.out Tryd.underlying24 rfl infoLO8 ?_) | (go_at_call 6; fail))
  refine (szOp_any K A B U G p q _ zs _ (HR.out.below B0.out) HN.out.1 HN.out.2).mono ?_
  rintro e w0 ⟨z, rfl, hz, b0⟩
  have B00 := hide (B0.out.trans (b0.mono B0.out.size))
  have K00 := hide (K0.out.below b0 K0.out.lt)
  clear b0 B0 K0
  by_cases hzn : z < 0
  · clear hz HS HI hel
    go_wp2
    go_ret
    exact ⟨rfl, B00.out⟩
  have HZ := hide (show zs.length ≤ 1048576 from by have := hz hzn; unfold smallO at this; omega)
  clear hz
  generalize encL n K A B U G p q zs = R at HS HI hel
  generalize codeLR n K U G p q zs.length = cc at HS HI
  have hcc : (cc != cc) = false := by simp
  obtain ⟨M, hM⟩ : ∃ K : Nat, K = 1 + R.length := ⟨_, rfl⟩
  have hMb : M ≤ 1048577 := by omega
  have HM := hide hM
  obtain ⟨M2, hM2⟩ : ∃ K : Nat, K = 1 + zs.length := ⟨_, rfl⟩
  have hMb2 : M2 ≤ 1048577 := by have := HZ.out; omega
  have HM2 := hide hM2
  clear hM hM2
  go_wp2_with (first | (refine wpList_load_row rfl 24 _ rfl w.heap.size rfl 24 #[.int .i64 K, .int .i64 A, .int .i64 B, .int .i64 U, .int .i64 G, .string p, .string q, .slice a zs.length cap] (0, 0) _ K00.out Tryd.underlying24 rfl infoLO8 ?_) | (go_at_call 8; fail))
  refine (toOp_any K A B U G p q _ zs _ (HR.out.below B00.out) HZ.out).mono ?_
  rintro x w1 ⟨v1, rfl, o1, b1⟩
  have B1 := hide (B00.out.trans (b1.mono B00.out.size))
  have K1 := hide (K00.out.below b1 K00.out.lt)
  have R1 := hide (Rd.own o1)
  clear b1 K00 B00 o1
  go_wp2_with (go_at_call 19; fail)
  refine (HS.out _ v1 R1.out).mono ?_
  rintro x w2 ⟨v2, rfl, o2, b2⟩
  have O2 := hide o2
  have B2 := hide (B1.out.trans (b2.mono B1.out.size))
  have K2 := hide (K1.out.below b2 K1.out.lt)
  clear b2 o2 K1 B1 R1
  go_wp2_with (first | (refine wpList_load_row rfl 24 _ rfl w.heap.size rfl 24 #[.int .i64 K, .int .i64 A, .int .i64 B, .int .i64 U, .int .i64 G, .string p, .string q, .slice a zs.length cap] (0, 0) _ K2.out Tryd.underlying24 rfl infoLO8 ?_) | (go_at_call 8; fail))
  refine (toOp_lit K A B U G p q _ zs _ (HR.out.below B2.out) HZ.out).mono ?_
  rintro x w4 ⟨v4, rfl, o4, b4⟩
  have hz2 : ∃ a1 cap1, v4 = .slice a1 zs.length cap1 := by obtain ⟨a1, cap1, h1, _⟩ := Rd.own o4; exact ⟨a1, cap1, h1⟩
  obtain ⟨a4, cap4, rfl⟩ := hz2
  have L2 := hide (fun k hk => (O2.out.lt k hk).2)
  have l24 := hide (And.intro K2.out.lt b4.size)
  have B4 := hide (B2.out.trans (b4.mono B2.out.size))
  have bA := (Below.refl w4.heap.size w4).alloc (Nat.le_refl _) (.cells #[.int .i64 K, .int .i64 A, .int .i64 B, .int .i64 U, .int .i64 G, .string p, .string q, .slice a4 zs.length cap4] 28)
  have B5 := hide (show Below w.heap.size w (w4.alloc (.cells #[.int .i64 K, .int .i64 A, .int .i64 B, .int .i64 U, .int .i64 G, .string p, .string q, .slice a4 zs.length cap4] 28)) from B4.out.alloc B4.out.size _)
  have K5 := hide ((K2.out.below b4 K2.out.lt).alloc (.cells #[.int .i64 K, .int .i64 A, .int .i64 B, .int .i64 U, .int .i64 G, .string p, .string q, .slice a4 zs.length cap4] 28))
  have J5 := hide (Blk.new w4 #[.int .i64 K, .int .i64 A, .int .i64 B, .int .i64 U, .int .i64 G, .string p, .string q, .slice a4 zs.length cap4] 28)
  have X5 := hide (own_below o4 bA)
  have LX := hide (fun k hk => (o4.lt k hk).2)
  have O5 := hide (own_below (own_below O2.out b4) bA)
  have hlt := B4.out.size
  clear B4 K2 O2 o4 b4 bA B2
  go_wp2_with (first | (refine wpList_load_row rfl 28 _ rfl w4.heap.size rfl 28 #[.int .i64 K, .int .i64 A, .int .i64 B, .int .i64 U, .int .i64 G, .string p, .string q, .slice a4 zs.length cap4] (0, 0) _ J5.out Tryd.underlying28 rfl infoO8 ?_) | (go_at_call 20; fail))
  refine (HI.out _ (.slice a4 zs.length cap4) (Rd.own X5.out) (HE.out.below B5.out)).mono ?_
  rintro x w6 ⟨g0, rfl, o6, b6⟩
  have G6 := hide o6
  have l56 := hide (show w4.heap.size < (w4.alloc (.cells #[.int .i64 K, .int .i64 A, .int .i64 B, .int .i64 U, .int .i64 G, .string p, .string q, .slice a4 zs.length cap4] 28)).heap.size from by simp)
  have O6 := hide (own_below O5.out b6)
  have X6 := hide (own_below X5.out b6)
  have B6 := hide (B5.out.trans (b6.mono B5.out.size))
  have K6 := hide (K5.out.below b6 K5.out.lt)
  have J6 := hide (J5.out.below b6 J5.out.lt)
  clear b6 o6 B5 K5 J5 O5 X5
  go_wp2_with fail
  refine (eqByteS_same g0 v2 R _ (Rd.own G6.out) (Rd.own O6.out)).mono ?_
  rintro x w7 ⟨rfl, b7⟩
  have G7 := hide (own_below G6.out b7)
  have O7 := hide (own_below O6.out b7)
  have X7 := hide (own_below X6.out b7)
  have B7 := hide (B6.out.trans (b7.mono B6.out.size))
  have K7 := hide (K6.out.below b7 K6.out.lt)
  have J7 := hide (J6.out.below b7 J6.out.lt)
  clear b7 G6 O6 X6 B6 K6 J6
  go_wp2_with fail
  refine wp_region_noPanic ?_
  refine wp_region_held_drew (S := fun w' => Below w7.heap.size w7 w') (by kernel_rfl) ((Below.refl _ _).drew) (fun hH => ?_)
  refine wpAnyH_take (i := 0) (oi := _) (v := .agg #[.int .i64 K, .int .i64 A, .int .i64 B, .int .i64 U, .int .i64 G, .string p, .string q, .slice a4 zs.length cap4]) rfl (by kernel_rfl) (by kernel_rfl) (by kernel_rfl) (fun _ _ _ h => h) (yieldsIf_load_mid (by rfl) 28 _ rfl w4.heap.size 0 rfl (#[.int .i64 K, .int .i64 A, .int .i64 B, .int .i64 U, .int .i64 G, .string p, .string q, .slice a4 zs.length cap4] : Array Value).toList _ (fun w' h => op_rangeR (J7.out.below h J7.out.lt)) Tryd.underlying28 rfl infoO8) hH ?_
  try simp only [Act.put, List.getElem_toArray, List.getElem_cons_zero, List.getElem_cons_succ, List.setIfInBounds_toArray, List.set_cons_zero, List.set_cons_succ]
  refine wpAnyH_take (i := 1) (oi := _) (v := .agg #[.int .i64 K, .int .i64 A, .int .i64 B, .int .i64 U, .int .i64 G, .string p, .string q, .slice a zs.length cap]) rfl (by kernel_rfl) (by kernel_rfl) (by kernel_rfl) (fun _ _ _ h => h) (yieldsIf_load_mid (by rfl) 24 _ rfl w.heap.size 0 rfl (#[.int .i64 K, .int .i64 A, .int .i64 B, .int .i64 U, .int .i64 G, .string p, .string q, .slice a zs.length cap] : Array Value).toList _ (fun w' h => op_rangeR (K7.out.below h K7.out.lt)) Tryd.underlying24 rfl infoLO8) hH ?_
  try simp only [Act.put, List.getElem_toArray, List.getElem_cons_zero, List.getElem_cons_succ, List.setIfInBounds_toArray, List.set_cons_zero, List.set_cons_succ]
  refine wpAnyH_ready (rs := [2]) (by kernel_rfl) (by simp) ?_
  refine AllReadyH.cons (o := _) rfl (fun K' hK => ?_) AllReadyH.nil
  go_simp
  refine (toOp_any K A B U G p q _ zs _ (HR.out.below (B7.out.trans (hH.mono B7.out.size))) HZ.out).mono ?_
  rintro x w8 ⟨v8, rfl, o8, b8⟩
  have B8 := hide (hH.trans (b8.mono hH.size))
  have O8 := hide (Rd.own o8)
  refine hK.out _ _ B8.out (fun hH8 => ?_)
  clear hK K' hH o8 b8
  try simp only [Act.put, List.getElem_toArray, List.getElem_cons_zero, List.getElem_cons_succ, List.setIfInBounds_toArray, List.set_cons_zero, List.set_cons_succ]
  refine wpAnyH_ready (rs := [3]) (by kernel_rfl) (by simp) ?_
  refine AllReadyH.cons (o := _) rfl (fun K' hK => ?_) AllReadyH.nil
  go_simp
  refine (eqOp_same K A B U G p q _ _ zs _ ((Rd.own X7.out).below B8.out) O8.out).mono ?_
  rintro x w9 ⟨rfl, b9⟩
  have B9 := hide (B8.out.trans (b9.mono B8.out.size))
  refine hK.out _ _ B9.out (fun hH9 => ?_)
  clear hK K' hH8 b9 B8 O8
  try simp only [Act.put, List.getElem_toArray, List.getElem_cons_zero, List.getElem_cons_succ, List.setIfInBounds_toArray, List.set_cons_zero, List.set_cons_succ]
  refine wpAnyH_take (i := 4) (oi := _) (v := .bool false) rfl (by kernel_rfl) (by kernel_rfl) (by kernel_rfl) (fun _ _ _ h => h) (Or.inl ⟨by rfl, fun w' hw' => by go_simp⟩) hH9 ?_
  try simp only [Act.put, List.getElem_toArray, List.getElem_cons_zero, List.getElem_cons_succ, List.setIfInBounds_toArray, List.set_cons_zero, List.set_cons_succ]
  refine wpAnyH_done (by kernel_rfl) (NoPanic.normal ?_) _
  have GA := hide (own_below G7.out B9.out)
  have OA := hide (own_below O7.out B9.out)
  have XA := hide (own_below X7.out B9.out)
  have BA := hide (B7.out.trans (B9.out.mono B7.out.size))
  have KA := hide (K7.out.below B9.out K7.out.lt)
  have JA := hide (J7.out.below B9.out J7.out.lt)
  clear hH9 B9 G7 O7 X7 B7 K7 J7
  go_wp2_with (first | (refine wpList_load_row rfl 28 _ rfl w4.heap.size rfl 28 #[.int .i64 K, .int .i64 A, .int .i64 B, .int .i64 U, .int .i64 G, .string p, .string q, .slice a4 zs.length cap4] (0, 0) _ JA.out Tryd.underlying28 rfl infoO8 ?_) | (go_at_call 12; fail))
  refine (markOp_any K A B U G p q (.slice a4 zs.length cap4) w2.heap.size zs.length 1 _ _ XA.out (by have := HZ.out; omega) (by omega)).mono ?_
  rintro x wB ⟨he, oB, gB⟩
  rw [← HM2.out] at he
  subst he
  have GB := hide (GA.out.kept gB (apart w4.heap.size (fun k hk => Nat.le_of_lt (Nat.lt_of_lt_of_le l56.out (GA.out.lt k hk).1)) LX.out))
  have OB := hide (OA.out.kept gB (apart' w2.heap.size L2.out (fun k hk => (XA.out.lt k hk).1)))
  have BB := hide (BA.out.grown gB BA.out.size (fun k hk => Nat.le_trans (Nat.le_of_lt l24.out.1) (XA.out.lt k hk).1))
  have KB := hide (show Blk wB w.heap.size #[.int .i64 K, .int .i64 A, .int .i64 B, .int .i64 U, .int .i64 G, .string p, .string q, .slice a zs.length cap] 24 from (gB.block _ KA.out.lt (fun e => by have h1 := (XA.out.lt _ e.symm).1; have h2 := l24.out.1; omega)).trans KA.out)
  clear oB gB GA OA XA BA KA JA
  have hk1 : decide ((M2 : Int) < 0) = false := by simp
  go_wp2_with (go_at_call 10; fail)
  refine (eqByteS_same g0 v2 R _ (Rd.own GB.out) (Rd.own OB.out)).mono ?_
  rintro x wC ⟨rfl, bC⟩
  have GC := hide (own_below GB.out bC)
  have OC := hide (own_below OB.out bC)
  have BC := hide (BB.out.trans (bC.mono BB.out.size))
  have KC := hide (KB.out.below bC KB.out.lt)
  clear bC GB OB BB KB hk1
  go_wp2_with fail
  refine (markByteS_any g0 _ R.length 1 _ _ GC.out (by omega) (by omega)).mono ?_
  rintro e wD ⟨he, oD, gD⟩
  rw [← HM.out] at he
  subst he
  have GD := hide oD
  have OD := hide (OC.out.kept gD (apart' w4.heap.size (fun k hk => Nat.lt_of_lt_of_le (L2.out k hk) l24.out.2) (fun k hk => Nat.le_of_lt (Nat.lt_of_lt_of_le l56.out (GC.out.lt k hk).1))))
  have BD := hide (BC.out.grown gD BC.out.size (fun k hk => Nat.le_trans (Nat.le_of_lt (Nat.lt_of_lt_of_le l24.out.1 (Nat.le_trans l24.out.2 (Nat.le_of_lt l56.out)))) (GC.out.lt k hk).1))
  have KD := hide (show Blk wD w.heap.size #[.int .i64 K, .int .i64 A, .int .i64 B, .int .i64 U, .int .i64 G, .string p, .string q, .slice a zs.length cap] 24 from (gD.block _ KC.out.lt (fun e => by have h1 := (GC.out.lt _ e.symm).1; have h2 := l24.out.1; have h3 := l24.out.2; have h4 := l56.out; omega)).trans KC.out)
  clear oD gD GC OC BC KC
  go_wp2_with fail
  refine (heldByteS_any g0 R.length 1 _ (Rd.own GD.out) (by omega) (by omega)).mono ?_
  rintro e wq ⟨he, hwq⟩
  rw [← HM.out] at he
  subst he
  rw [hwq]
  clear hwq wq
  go_wp2_with (first | (refine wpList_load_row rfl 24 _ rfl w.heap.size rfl 24 #[.int .i64 K, .int .i64 A, .int .i64 B, .int .i64 U, .int .i64 G, .string p, .string q, .slice a zs.length cap] (0, 0) _ KD.out Tryd.underlying24 rfl infoLO8 ?_) | (go_at_call 8; fail))
  refine (toOp_any K A B U G p q _ zs _ (HR.out.below BD.out) HZ.out).mono ?_
  rintro x wE ⟨vE, rfl, oE, bE⟩
  have GE := hide (own_below GD.out bE)
  have OE := hide (own_below OD.out bE)
  have BE := hide (BD.out.trans (bE.mono BD.out.size))
  have RE := hide (Rd.own oE)
  clear bE oE GD OD BD KD
  go_wp2_with (go_at_call 20; fail)
  refine (HI.out _ vE RE.out (HE.out.below BE.out)).mono ?_
  rintro x wF ⟨h0, rfl, oF, bF⟩
  have HF := hide (Rd.own oF)
  have GF := hide (own_below GE.out bF)
  have OF := hide (own_below OE.out bF)
  have BF := hide (BE.out.trans (bF.mono BE.out.size))
  clear oF bF GE OE BE RE
  go_wp2_with fail
  refine (eqByteS_same h0 v2 R _ HF.out (Rd.own OF.out)).mono ?_
  rintro e wG ⟨rfl, bG⟩
  have GG := hide (own_below GF.out bG)
  have BG := hide (BF.out.trans (bG.mono BF.out.size))
  clear bG GF OF BF HF
  go_wp2_with fail
  refine (heldByteS_any g0 R.length 1 _ (Rd.own GG.out) (by omega) (by omega)).mono ?_
  rintro e wq ⟨he, hwq⟩
  rw [← HM.out] at he
  subst he
  rw [hwq]
  clear hwq wq
  go_wp2
  go_ret
  exact ⟨rfl, BG.out⟩
end Go.Proofs.YthkoflpcinbgeaaDoor
