/- The law on EncodeFsinfo, walked: it answers true and turns nothing that was there. -/
import Derived.Test.YtfpfhmnmcjnmaaaDoorFsE
import Derived.Test.YtfpfhmnmcjnmaaaDoorApart
namespace Go.Proofs.YtfpfhmnmcjnmaaaDoor
set_option linter.unusedVariables false
set_option linter.unusedSimpArgs false
open Go.RowKit

set_option maxRecDepth 100000 in
set_option maxHeartbeats 2000000 in
theorem lawEncF (gen bl cu ck op ev lg s1 : Int) (ds1 : List Int) (p1 q1 s2 : Int) (ds2 : List Int) (p2 q2 : Int) (sn : List Int) (w : World) (hd1 : ds1.length = 12) (hd2 : ds2.length = 12) (hsn : sn.length = 31) (hg : ErrT w) (hL : LetF w) :
    Calls Tryd.prog 8 #[.agg (cellsI (fsI gen bl cu ck op ev lg s1 ds1 p1 q1 s2 ds2 p2 q2 sn))] w fun e w' => e = .returned (.bool true) ∧ Below w.heap.size w w' := by
  have HD := hide (And.intro hd1 (And.intro hd2 hsn))
  have HZ := hide (show (cellsI (fsI gen bl cu ck op ev lg s1 ds1 p1 q1 s2 ds2 p2 q2 sn)).size = 68 from by rw [cellsI_size]; exact fsI_len _ _ _ _ _ _ _ _ _ _ _ _ _ _ _ _ hd1 hd2 hsn)
  have B0 := hide (show Below w.heap.size w (w.alloc (.cells (cellsI (fsI gen bl cu ck op ev lg s1 ds1 p1 q1 s2 ds2 p2 q2 sn)) 56)) from (Below.refl _ _).alloc (Nat.le_refl _) _)
  have HE := hide (And.intro hg hL)
  have K0 := hide (Blk.new w (cellsI (fsI gen bl cu ck op ev lg s1 ds1 p1 q1 s2 ds2 p2 q2 sn)) 56)
  clear hd1 hd2 hsn hg hL
  go_enter Tryd.func8, Tryd.ntmps8
  have HS := hide (fun (w : World) => specFs_any gen bl cu ck op ev lg s1 ds1 p1 q1 s2 ds2 p2 q2 sn w HD.out.1 HD.out.2.1 HD.out.2.2)
  have HI := hide (fun (w : World) (hg : ErrT w) (hL : LetF w) => implFs_any gen bl cu ck op ev lg s1 ds1 p1 q1 s2 ds2 p2 q2 sn w HD.out.1 HD.out.2.1 HD.out.2.2 hg hL)
  have hel := encFs_len gen bl cu ck op ev lg s1 ds1 p1 q1 s2 ds2 p2 q2 sn HD.out.1 HD.out.2.1 HD.out.2.2
  generalize encFs gen bl cu ck op ev lg s1 ds1 p1 q1 s2 ds2 p2 q2 sn = R at HS HI hel
  generalize codeFs gen bl cu ck op ev lg s1 ds1 p1 q1 s2 ds2 p2 q2 sn = cc at HS HI
  have hcc : (cc != cc) = false := by simp
  obtain ⟨M, hM⟩ : ∃ K : Nat, K = 1 + R.length := ⟨_, rfl⟩
  have hMb : M ≤ 1048577 := by omega
  have HM := hide hM
  clear hM
  go_wp2_with (first | (refine wpList_load_row rfl 56 _ rfl w.heap.size rfl 56 (cellsI (fsI gen bl cu ck op ev lg s1 ds1 p1 q1 s2 ds2 p2 q2 sn)) (0, 0) _ K0.out Tryd.underlying56 rfl (by rw [HZ.out]; exact infoL68) ?_) | (go_at_call 34; fail))
  refine (toFs_any gen bl cu ck op ev lg s1 ds1 p1 q1 s2 ds2 p2 q2 sn _ HD.out.1 HD.out.2.1 HD.out.2.2).mono ?_
  rintro e w1 ⟨rfl, b1⟩
  have B1 := hide (B0.out.trans (b1.mono B0.out.size))
  have K1 := hide (K0.out.below b1 K0.out.lt)
  clear b1
  go_wp2_with fail
  refine (HS.out _).mono ?_
  rintro e w2 ⟨v2, rfl, o2, b2⟩
  have O2 := hide o2
  have B2 := hide (B1.out.trans (b2.mono B1.out.size))
  have K2 := hide (K1.out.below b2 K1.out.lt)
  clear o2 b2 K1 B1 K0 B0
  go_wp2_with (first | (refine wpList_load_row rfl 56 _ rfl w.heap.size rfl 56 (cellsI (fsI gen bl cu ck op ev lg s1 ds1 p1 q1 s2 ds2 p2 q2 sn)) (0, 0) _ K2.out Tryd.underlying56 rfl (by rw [HZ.out]; exact infoL68) ?_) | (go_at_call 34; fail))
  refine (toFs_any gen bl cu ck op ev lg s1 ds1 p1 q1 s2 ds2 p2 q2 sn _ HD.out.1 HD.out.2.1 HD.out.2.2).mono ?_
  rintro e w3 ⟨rfl, b3⟩
  have B3 := hide (B2.out.trans (b3.mono B2.out.size))
  have K3 := hide (K2.out.below b3 K2.out.lt)
  have O3 := hide (own_below O2.out b3)
  have L2 := hide (fun k hk => (O3.out.lt k hk).2)
  clear b3 O2 K2 B2
  go_wp2_with fail
  refine (HI.out _ (HE.out.1.below B3.out) (HE.out.2.below B3.out)).mono ?_
  rintro e w4 ⟨g0, rfl, o4, b4⟩
  have G4 := hide o4
  have O4 := hide (own_below O3.out b4)
  have B4 := hide (B3.out.trans (b4.mono B3.out.size))
  have K4 := hide (K3.out.below b4 K3.out.lt)
  have l34 := hide (K3.out.lt)
  clear o4 b4 O3 K3
  go_wp2_with fail
  refine (eqByteS_same g0 v2 R _ (Rd.own G4.out) (Rd.own O4.out)).mono ?_
  rintro e w5 ⟨rfl, b5⟩
  have G5 := hide (own_below G4.out b5)
  have O5 := hide (own_below O4.out b5)
  have B5 := hide (B4.out.trans (b5.mono B4.out.size))
  have K5 := hide (K4.out.below b5 K4.out.lt)
  clear b5 G4 O4 B4 K4
  go_wp2_with fail
  refine (markByteS_any g0 w3.heap.size R.length 1 _ _ G5.out (by omega) (by omega)).mono ?_
  rintro e w6 ⟨he, o6, g6⟩
  rw [← HM.out] at he
  subst he
  have G6 := hide o6
  have O6 := hide (O5.out.kept g6 (apart' w3.heap.size L2.out (fun k hk => (G5.out.lt k hk).1)))
  have B6 := hide (B5.out.grown g6 B5.out.size (fun k hk => Nat.le_trans B3.out.size (G5.out.lt k hk).1))
  have K6 := hide (show Blk w6 w.heap.size (cellsI (fsI gen bl cu ck op ev lg s1 ds1 p1 q1 s2 ds2 p2 q2 sn)) 56 from (g6.block _ K5.out.lt (fun e => by have h1 := (G5.out.lt _ e.symm).1; have h2 := l34.out; omega)).trans K5.out)
  clear o6 g6 G5 O5 B5 K5
  go_wp2_with fail
  refine (heldByteS_any g0 R.length 1 _ (Rd.own G6.out) (by omega) (by omega)).mono ?_
  rintro e wq ⟨he, hwq⟩
  rw [← HM.out] at he
  subst he
  rw [hwq]
  clear hwq wq
  go_wp2_with (first | (refine wpList_load_row rfl 56 _ rfl w.heap.size rfl 56 (cellsI (fsI gen bl cu ck op ev lg s1 ds1 p1 q1 s2 ds2 p2 q2 sn)) (0, 0) _ K6.out Tryd.underlying56 rfl (by rw [HZ.out]; exact infoL68) ?_) | (go_at_call 34; fail))
  refine (toFs_any gen bl cu ck op ev lg s1 ds1 p1 q1 s2 ds2 p2 q2 sn _ HD.out.1 HD.out.2.1 HD.out.2.2).mono ?_
  rintro e w7 ⟨rfl, b7⟩
  have B7 := hide (B6.out.trans (b7.mono B6.out.size))
  have G7 := hide (own_below G6.out b7)
  have O7 := hide (own_below O6.out b7)
  clear b7 G6 O6 B6 K6
  go_wp2_with fail
  refine (HI.out _ (HE.out.1.below B7.out) (HE.out.2.below B7.out)).mono ?_
  rintro e w8 ⟨h0, rfl, o8, b8⟩
  have H8 := hide (Rd.own o8)
  have G8 := hide (own_below G7.out b8)
  have O8 := hide (own_below O7.out b8)
  have B8 := hide (B7.out.trans (b8.mono B7.out.size))
  clear o8 b8 G7 O7 B7
  go_wp2_with fail
  refine (eqByteS_same h0 v2 R _ H8.out (Rd.own O8.out)).mono ?_
  rintro e w9 ⟨rfl, b9⟩
  have G9 := hide (own_below G8.out b9)
  have B9 := hide (B8.out.trans (b9.mono B8.out.size))
  clear b9 G8 O8 B8 H8
  go_wp2_with fail
  refine (heldByteS_any g0 R.length 1 _ (Rd.own G9.out) (by omega) (by omega)).mono ?_
  rintro e wq ⟨he, hwq⟩
  rw [← HM.out] at he
  subst he
  rw [hwq]
  clear hwq wq
  go_wp2
  go_ret
  exact ⟨rfl, B9.out⟩
end Go.Proofs.YtfpfhmnmcjnmaaaDoor
