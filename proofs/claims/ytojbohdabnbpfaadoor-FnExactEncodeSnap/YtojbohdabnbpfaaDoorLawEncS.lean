/- The law on EncodeSnap, walked: it answers true and turns nothing that was there. -/
import Derived.Test.YtojbohdabnbpfaaDoorSnapH
import Derived.Test.YtojbohdabnbpfaaDoorSnapE
import Derived.Test.YtojbohdabnbpfaaDoorApart
namespace Go.Proofs.YtojbohdabnbpfaaDoor
set_option linter.unusedVariables false
set_option linter.unusedSimpArgs false
open Go.RowKit

theorem infoLS : (Tryd.prog.info? 63).map (·.size) = some 19 := by kernel_rfl
set_option maxHeartbeats 400000 in
theorem szSnap_any (pl : Int) (nm : ByteArray) (ge cl s : Int) (ds : List Int) (p q : Int) (w : World) (hn : nm.size ≤ maxLen) :
    Calls Tryd.prog 36 #[.agg (snapC pl nm ge cl s ds p q), .int .i64 1048576] w fun e w' => ∃ z : Int, e = .returned (.int .i64 z) ∧ (z < 0 ↔ 1048576 < nm.size) ∧ Below w.heap.size w w' := by
  unfold maxLen at hn
  have c1 : (w.alloc (.cells (snapC pl nm ge cl s ds p q) 63)).cell? ⟨w.heap.size, 1, none⟩ = some (.string nm) := by rw [(Blk.new w _ _).cell 1]; rfl
  have B0 := hide (show Below w.heap.size w (w.alloc (.cells (snapC pl nm ge cl s ds p q) 63)) from (Below.refl _ _).alloc (Nat.le_refl _) _)
  by_cases hb : (1048576 : Int) < (nm.size : Int)
  · go_enter Tryd.func36, Tryd.ntmps36
    go_wp2
    go_ret
    exact ⟨-1, rfl, by omega, B0.out⟩
  · go_enter Tryd.func36, Tryd.ntmps36
    go_wp2
    go_ret
    exact ⟨_, rfl, by omega, B0.out⟩

set_option maxRecDepth 100000 in
set_option maxHeartbeats 2000000 in
theorem lawEncS (pl : Int) (nm : ByteArray) (ge cl s : Int) (ds : List Int) (p q : Int) (w : World) (hd : ds.length = 12) (hn : nm.size ≤ maxLen) (hg : ErrT w) (hL : LetS w) :
    Calls Tryd.prog 9 #[.agg (snapC pl nm ge cl s ds p q)] w fun e w' => e = .returned (.bool true) ∧ Below w.heap.size w w' := by
  have HD := hide hd
  have HN := hide hn
  have HZ := hide (show (snapC pl nm ge cl s ds p q).size = 19 from snapC_size _ _ _ _ _ _ _ _ HD.out)
  have B0 := hide (show Below w.heap.size w (w.alloc (.cells (snapC pl nm ge cl s ds p q) 63)) from (Below.refl _ _).alloc (Nat.le_refl _) _)
  have HE := hide (And.intro hg hL)
  have K0 := hide (Blk.new w (snapC pl nm ge cl s ds p q) 63)
  clear hd hg hL hn
  go_enter Tryd.func9, Tryd.ntmps9
  go_wp2_with (first | (refine wpList_load_row rfl 63 _ rfl w.heap.size rfl 63 (snapC pl nm ge cl s ds p q) (0, 0) _ K0.out Tryd.underlying63 rfl (by rw [HZ.out]; exact infoLS) ?_) | (go_at_call 36; fail))
  refine (szSnap_any pl nm ge cl s ds p q _ HN.out).mono ?_
  rintro e w0 ⟨z, rfl, hz, b0⟩
  have B00 := hide (B0.out.trans (b0.mono B0.out.size))
  have K00 := hide (K0.out.below b0 K0.out.lt)
  clear b0 B0 K0
  by_cases hzn : z < 0
  · clear hz
    go_wp2
    go_ret
    exact ⟨rfl, B00.out⟩
  clear hz
  have HS := hide (fun (w : World) => specS_any pl nm ge cl s ds p q w HD.out HN.out)
  have HI := hide (fun (w : World) (hg : ErrT w) (hL : LetS w) => implS_any pl nm ge cl s ds p q w HD.out HN.out hg hL)
  have hel := encS_len pl nm ge cl s ds p q HD.out
  generalize encS pl nm ge cl s ds p q = R at HS HI hel
  generalize codeS pl nm ge cl s ds p q = cc at HS HI
  have hcc : (cc != cc) = false := by simp
  obtain ⟨M, hM⟩ : ∃ K : Nat, K = 1 + R.length := ⟨_, rfl⟩
  have hMb : M ≤ 1048577 := by omega
  have HM := hide hM
  clear hM
  go_wp2_with (first | (refine wpList_load_row rfl 63 _ rfl w.heap.size rfl 63 (snapC pl nm ge cl s ds p q) (0, 0) _ K00.out Tryd.underlying63 rfl (by rw [HZ.out]; exact infoLS) ?_) | (go_at_call 38; fail))
  refine (toSnap_any pl nm ge cl s ds p q _ HD.out).mono ?_
  rintro e w1 ⟨rfl, b1⟩
  have B1 := hide (B00.out.trans (b1.mono B00.out.size))
  have K1 := hide (K00.out.below b1 K00.out.lt)
  clear b1
  go_wp2_with fail
  refine (HS.out _).mono ?_
  rintro e w2 ⟨v2, rfl, o2, b2⟩
  have O2 := hide o2
  have B2 := hide (B1.out.trans (b2.mono B1.out.size))
  have K2 := hide (K1.out.below b2 K1.out.lt)
  clear o2 b2 K1 B1 K00 B00
  go_wp2_with (first | (refine wpList_load_row rfl 63 _ rfl w.heap.size rfl 63 (snapC pl nm ge cl s ds p q) (0, 0) _ K2.out Tryd.underlying63 rfl (by rw [HZ.out]; exact infoLS) ?_) | (go_at_call 38; fail))
  refine (toSnap_any pl nm ge cl s ds p q _ HD.out).mono ?_
  rintro e w3 ⟨rfl, b3⟩
  have B3 := hide (B2.out.trans (b3.mono B2.out.size))
  have K3 := hide (K2.out.below b3 K2.out.lt)
  have O3 := hide (own_below O2.out b3)
  have L2 := hide (fun k hk => (O3.out.lt k hk).2)
  clear b3 O2 K2 B2
  go_wp2_with fail
  refine (HI.out _ (HE.out.1.below B3.out) (HE.out.2.below B3.out)).mono ?_
  rintro e w4 ⟨g0, rfl, o4, b4⟩
  have G4 := hide o4
  have O4 := hide (own_below O3.out b4)
  have B4 := hide (B3.out.trans (b4.mono B3.out.size))
  have K4 := hide (K3.out.below b4 K3.out.lt)
  have l34 := hide (K3.out.lt)
  clear o4 b4 O3 K3
  go_wp2_with fail
  refine (eqByteS_same g0 v2 R _ (Rd.own G4.out) (Rd.own O4.out)).mono ?_
  rintro e w5 ⟨rfl, b5⟩
  have G5 := hide (own_below G4.out b5)
  have O5 := hide (own_below O4.out b5)
  have B5 := hide (B4.out.trans (b5.mono B4.out.size))
  have K5 := hide (K4.out.below b5 K4.out.lt)
  clear b5 G4 O4 B4 K4
  go_wp2_with fail
  refine (markByteS_any g0 w3.heap.size R.length 1 _ _ G5.out (by omega) (by omega)).mono ?_
  rintro e w6 ⟨he, o6, g6⟩
  rw [← HM.out] at he
  subst he
  have G6 := hide o6
  have O6 := hide (O5.out.kept g6 (apart' w3.heap.size L2.out (fun k hk => (G5.out.lt k hk).1)))
  have B6 := hide (B5.out.grown g6 B5.out.size (fun k hk => Nat.le_trans B3.out.size (G5.out.lt k hk).1))
  have K6 := hide (show Blk w6 w.heap.size (snapC pl nm ge cl s ds p q) 63 from (g6.block _ K5.out.lt (fun e => by have h1 := (G5.out.lt _ e.symm).1; have h2 := l34.out; omega)).trans K5.out)
  clear o6 g6 G5 O5 B5 K5
  go_wp2_with fail
  refine (heldByteS_any g0 R.length 1 _ (Rd.own G6.out) (by omega) (by omega)).mono ?_
  rintro e wq ⟨he, hwq⟩
  rw [← HM.out] at he
  subst he
  rw [hwq]
  clear hwq wq
  go_wp2_with (first | (refine wpList_load_row rfl 63 _ rfl w.heap.size rfl 63 (snapC pl nm ge cl s ds p q) (0, 0) _ K6.out Tryd.underlying63 rfl (by rw [HZ.out]; exact infoLS) ?_) | (go_at_call 38; fail))
  refine (toSnap_any pl nm ge cl s ds p q _ HD.out).mono ?_
  rintro e w7 ⟨rfl, b7⟩
  have B7 := hide (B6.out.trans (b7.mono B6.out.size))
  have G7 := hide (own_below G6.out b7)
  have O7 := hide (own_below O6.out b7)
  clear b7 G6 O6 B6 K6
  go_wp2_with fail
  refine (HI.out _ (HE.out.1.below B7.out) (HE.out.2.below B7.out)).mono ?_
  rintro e w8 ⟨h0, rfl, o8, b8⟩
  have H8 := hide (Rd.own o8)
  have G8 := hide (own_below G7.out b8)
  have O8 := hide (own_below O7.out b8)
  have B8 := hide (B7.out.trans (b8.mono B7.out.size))
  clear o8 b8 G7 O7 B7
  go_wp2_with fail
  refine (eqByteS_same h0 v2 R _ H8.out (Rd.own O8.out)).mono ?_
  rintro e w9 ⟨rfl, b9⟩
  have G9 := hide (own_below G8.out b9)
  have B9 := hide (B8.out.trans (b9.mono B8.out.size))
  clear b9 G8 O8 B8 H8
  go_wp2_with fail
  refine (heldByteS_any g0 R.length 1 _ (Rd.own G9.out) (by omega) (by omega)).mono ?_
  rintro e wq ⟨he, hwq⟩
  rw [← HM.out] at he
  subst he
  rw [hwq]
  clear hwq wq
  go_wp2
  go_ret
  exact ⟨rfl, B9.out⟩
end Go.Proofs.YtojbohdabnbpfaaDoor
