/- The law on EncodeRoot, walked: it answers true and turns nothing that was there. -/
import Derived.Test.YtfpfhmnmcjnmaaaDoorRootI
import Derived.Test.YtfpfhmnmcjnmaaaDoorApart
namespace Go.Proofs.YtfpfhmnmcjnmaaaDoor
set_option linter.unusedVariables false
set_option linter.unusedSimpArgs false
open Go.RowKit


set_option maxRecDepth 100000 in
set_option maxHeartbeats 2000000 in
theorem lawEncR (s : Int) (ds : List Int) (p q : Int) (w : World) (hd : ds.length = 12) (hg : ErrT w) :
    Calls Tryd.prog 4 #[.agg (cellsI (rootI s ds p q))] w fun e w' => e = .returned (.bool true) ∧ Below w.heap.size w w' := by
  have HD := hide hd
  have HZ := hide (show (cellsI (rootI s ds p q)).size = 15 from by rw [cellsI_size]; exact rootI_len s ds p q HD.out)
  have hel := encR_len s ds p q hd
  have hcc : (codeR s ds p q != codeR s ds p q) = false := by simp
  have B0 := hide (show Below w.heap.size w (w.alloc (.cells (cellsI (rootI s ds p q)) 34)) from (Below.refl _ _).alloc (Nat.le_refl _) _)
  have HE := hide hg
  have K0 := hide (Blk.new w (cellsI (rootI s ds p q)) 34)
  clear hd hg
  go_enter Tryd.func4, Tryd.ntmps4
  go_wp2_with (first | (refine wpList_load_row rfl 34 _ rfl w.heap.size rfl 34 (cellsI (rootI s ds p q)) (0, 0) _ K0.out Tryd.underlying34 rfl (by rw [HZ.out]; exact infoL15) ?_) | (go_at_call 21; fail))
  refine (toRoot_any s ds p q _ HD.out).mono ?_
  rintro e w1 ⟨rfl, b1⟩
  have B1 := hide (B0.out.trans (b1.mono B0.out.size))
  have K1 := hide (K0.out.below b1 K0.out.lt)
  clear b1
  go_wp2_with fail
  refine (specR_any s ds p q _ HD.out).mono ?_
  rintro e w2 ⟨v2, rfl, o2, b2⟩
  have O2 := hide o2
  have B2 := hide (B1.out.trans (b2.mono B1.out.size))
  have K2 := hide (K1.out.below b2 K1.out.lt)
  clear o2 b2 K1 B1 K0 B0
  go_wp2_with (first | (refine wpList_load_row rfl 34 _ rfl w.heap.size rfl 34 (cellsI (rootI s ds p q)) (0, 0) _ K2.out Tryd.underlying34 rfl (by rw [HZ.out]; exact infoL15) ?_) | (go_at_call 21; fail))
  refine (toRoot_any s ds p q _ HD.out).mono ?_
  rintro e w3 ⟨rfl, b3⟩
  have B3 := hide (B2.out.trans (b3.mono B2.out.size))
  have K3 := hide (K2.out.below b3 K2.out.lt)
  have O3 := hide (own_below O2.out b3)
  have L2 := hide (fun k hk => (O3.out.lt k hk).2)
  clear b3 O2 K2 B2
  go_wp2_with fail
  refine (implR_any s ds p q _ HD.out (HE.out.below B3.out)).mono ?_
  rintro e w4 ⟨g0, rfl, o4, b4⟩
  have G4 := hide o4
  have O4 := hide (own_below O3.out b4)
  have B4 := hide (B3.out.trans (b4.mono B3.out.size))
  have K4 := hide (K3.out.below b4 K3.out.lt)
  have l34 := hide (K3.out.lt)
  clear o4 b4 O3 K3
  go_wp2_with fail
  refine (eqByteS_same g0 v2 (encR s ds p q) _ (Rd.own G4.out) (Rd.own O4.out)).mono ?_
  rintro e w5 ⟨rfl, b5⟩
  have G5 := hide (own_below G4.out b5)
  have O5 := hide (own_below O4.out b5)
  have B5 := hide (B4.out.trans (b5.mono B4.out.size))
  have K5 := hide (K4.out.below b5 K4.out.lt)
  clear b5 G4 O4 B4 K4
  go_wp2_with fail
  refine (markByteS_any g0 w3.heap.size (encR s ds p q).length 1 _ _ G5.out (by omega) (by omega)).mono ?_
  rintro e w6 ⟨rfl, o6, g6⟩
  have G6 := hide o6
  have O6 := hide (O5.out.kept g6 (apart' w3.heap.size L2.out (fun k hk => (G5.out.lt k hk).1)))
  have B6 := hide (B5.out.grown g6 B5.out.size (fun k hk => Nat.le_trans B3.out.size (G5.out.lt k hk).1))
  have K6 := hide (show Blk w6 w.heap.size (cellsI (rootI s ds p q)) 34 from (g6.block _ K5.out.lt (fun e => by have h1 := (G5.out.lt _ e.symm).1; have h2 := l34.out; omega)).trans K5.out)
  clear o6 g6 G5 O5 B5 K5
  go_wp2_with fail
  refine (heldByteS_any g0 (encR s ds p q).length 1 _ (Rd.own G6.out) (by omega) (by omega)).mono ?_
  rintro e wq ⟨rfl, hwq⟩
  rw [hwq]
  clear hwq
  go_wp2_with (first | (refine wpList_load_row rfl 34 _ rfl w.heap.size rfl 34 (cellsI (rootI s ds p q)) (0, 0) _ K6.out Tryd.underlying34 rfl (by rw [HZ.out]; exact infoL15) ?_) | (go_at_call 21; fail))
  refine (toRoot_any s ds p q _ HD.out).mono ?_
  rintro e w7 ⟨rfl, b7⟩
  have B7 := hide (B6.out.trans (b7.mono B6.out.size))
  have G7 := hide (own_below G6.out b7)
  have O7 := hide (own_below O6.out b7)
  clear b7 G6 O6 B6 K6
  go_wp2_with fail
  refine (implR_any s ds p q _ HD.out (HE.out.below B7.out)).mono ?_
  rintro e w8 ⟨h0, rfl, o8, b8⟩
  have H8 := hide (Rd.own o8)
  have G8 := hide (own_below G7.out b8)
  have O8 := hide (own_below O7.out b8)
  have B8 := hide (B7.out.trans (b8.mono B7.out.size))
  clear o8 b8 G7 O7 B7
  go_wp2_with fail
  refine (eqByteS_same h0 v2 (encR s ds p q) _ H8.out (Rd.own O8.out)).mono ?_
  rintro e w9 ⟨rfl, b9⟩
  have G9 := hide (own_below G8.out b9)
  have B9 := hide (B8.out.trans (b9.mono B8.out.size))
  clear b9 G8 O8 B8 H8
  go_wp2_with fail
  refine (heldByteS_any g0 (encR s ds p q).length 1 _ (Rd.own G9.out) (by omega) (by omega)).mono ?_
  rintro e wq ⟨rfl, hwq⟩
  rw [hwq]
  clear hwq
  go_wp2
  go_ret
  exact ⟨rfl, B9.out⟩

theorem root_of_list (rs : List Int) (h : rs.length = 15) : ∃ s ds p q, ds.length = 12 ∧ rs = rootI s ds p q := by
  match rs, h with
  | [s, d0, d1, d2, d3, d4, d5, d6, d7, d8, d9, d10, d11, p, q], _ => exact ⟨s, [d0, d1, d2, d3, d4, d5, d6, d7, d8, d9, d10, d11], p, q, rfl, rfl⟩
end Go.Proofs.YtfpfhmnmcjnmaaaDoor
