/- The law on EncodeFsinfo, walked: it answers true and turns nothing that was there. What a struct that came in is opened with. A root that came in, opened: fifteen integers. A root record that came in, opened; the letters out of what the start lays. -/
import Derived.Test.YtfpfhmnmcjnmaaaDoorKfG
import Derived.Test.YtfpfhmnmcjnmaaaDoorKfE
import Derived.Test.YtfpfhmnmcjnmaaaDoorRootA
import Derived.ProofKit
import Derived.OpenShut
import Derived.Test.YtfpfhmnmcjnmaaaDoorDoor
import Derived.OpenVars
namespace Go.Proofs.YtfpfhmnmcjnmaaaDoor
set_option linter.unusedVariables false
set_option linter.unusedSimpArgs false
open Go.RowKit

set_option maxRecDepth 100000 in
set_option maxHeartbeats 2000000 in
theorem lawEncF (gen bl cu ck op ev lg s1 : Int) (ds1 : List Int) (p1 q1 s2 : Int) (ds2 : List Int) (p2 q2 : Int) (sn : List Int) (w : World) (hd1 : ds1.length = 12) (hd2 : ds2.length = 12) (hsn : sn.length = 31) (hg : ErrT w) (hL : LetF w) :
    Calls Tryd.prog 8 #[.agg (cellsI (fsI gen bl cu ck op ev lg s1 ds1 p1 q1 s2 ds2 p2 q2 sn))] w fun e w' => e = .returned (.bool true) ∧ Below w.heap.size w w' := by
  have HD := hide (And.intro hd1 (And.intro hd2 hsn))
  have HZ := hide (show (cellsI (fsI gen bl cu ck op ev lg s1 ds1 p1 q1 s2 ds2 p2 q2 sn)).size = 68 from by rw [cellsI_size]; exact fsI_len _ _ _ _ _ _ _ _ _ _ _ _ _ _ _ _ hd1 hd2 hsn)
  have B0 := hide (show Below w.heap.size w (w.alloc (.cells (cellsI (fsI gen bl cu ck op ev lg s1 ds1 p1 q1 s2 ds2 p2 q2 sn)) 56)) from (Below.refl _ _).alloc (Nat.le_refl _) _)
  have HE := hide (And.intro hg hL)
  have K0 := hide (Blk.new w (cellsI (fsI gen bl cu ck op ev lg s1 ds1 p1 q1 s2 ds2 p2 q2 sn)) 56)
  clear hd1 hd2 hsn hg hL
  go_enter Tryd.func8, Tryd.ntmps8
  have HS := hide (fun (w : World) => specFs_any gen bl cu ck op ev lg s1 ds1 p1 q1 s2 ds2 p2 q2 sn w HD.out.1 HD.out.2.1 HD.out.2.2)
  have HI := hide (fun (w : World) (hg : ErrT w) (hL : LetF w) => implFs_any gen bl cu ck op ev lg s1 ds1 p1 q1 s2 ds2 p2 q2 sn w HD.out.1 HD.out.2.1 HD.out.2.2 hg hL)
  have hel := encFs_len gen bl cu ck op ev lg s1 ds1 p1 q1 s2 ds2 p2 q2 sn HD.out.1 HD.out.2.1 HD.out.2.2
  generalize encFs gen bl cu ck op ev lg s1 ds1 p1 q1 s2 ds2 p2 q2 sn = R at HS HI hel
  generalize codeFs gen bl cu ck op ev lg s1 ds1 p1 q1 s2 ds2 p2 q2 sn = cc at HS HI
  have hcc : (cc != cc) = false := by simp
  obtain ⟨M, hM⟩ : ∃ K : Nat, K = 1 + R.length := ⟨_, rfl⟩
  have hMb : M ≤ 1048577 := by omega
  have HM := hide hM
  clear hM
  go_wp2_with (first | (refine wpList_load_row rfl 56 _ rfl w.heap.size rfl 56 (cellsI (fsI gen bl cu ck op ev lg s1 ds1 p1 q1 s2 ds2 p2 q2 sn)) (0, 0) _ K0.out Tryd.underlying56 rfl (by rw [HZ.out]; exact infoL68) ?_) | (go_at_call 34; fail))
  refine (toFs_any gen bl cu ck op ev lg s1 ds1 p1 q1 s2 ds2 p2 q2 sn _ HD.out.1 HD.out.2.1 HD.out.2.2).mono ?_
  rintro e w1 ⟨rfl, b1⟩
  have B1 := hide (B0.out.trans (b1.mono B0.out.size))
  have K1 := hide (K0.out.below b1 K0.out.lt)
  clear b1
  go_wp2_with fail
  refine (HS.out _).mono ?_
  rintro e w2 ⟨v2, rfl, o2, b2⟩
  have O2 := hide o2
  have B2 := hide (B1.out.trans (b2.mono B1.out.size))
  have K2 := hide (K1.out.below b2 K1.out.lt)
  clear o2 b2 K1 B1 K0 B0
  go_wp2_with (first | (refine wpList_load_row rfl 56 _ rfl w.heap.size rfl 56 (cellsI (fsI gen bl cu ck op ev lg s1 ds1 p1 q1 s2 ds2 p2 q2 sn)) (0, 0) _ K2.out Tryd.underlying56 rfl (by rw [HZ.out]; exact infoL68) ?_) | (go_at_call 34; fail))
  refine (toFs_any gen bl cu ck op ev lg s1 ds1 p1 q1 s2 ds2 p2 q2 sn _ HD.out.1 HD.out.2.1 HD.out.2.2).mono ?_
  rintro e w3 ⟨rfl, b3⟩
  have B3 := hide (B2.out.trans (b3.mono B2.out.size))
  have K3 := hide (K2.out.below b3 K2.out.lt)
  have O3 := hide (own_below O2.out b3)
  have L2 := hide (fun k hk => (O3.out.lt k hk).2)
  clear b3 O2 K2 B2
  go_wp2_with fail
  refine (HI.out _ (HE.out.1.below B3.out) (HE.out.2.below B3.out)).mono ?_
  rintro e w4 ⟨g0, rfl, o4, b4⟩
  have G4 := hide o4
  have O4 := hide (own_below O3.out b4)
  have B4 := hide (B3.out.trans (b4.mono B3.out.size))
  have K4 := hide (K3.out.below b4 K3.out.lt)
  have l34 := hide (K3.out.lt)
  clear o4 b4 O3 K3
  go_wp2_with fail
  refine (eqByteS_same g0 v2 R _ (Rd.own G4.out) (Rd.own O4.out)).mono ?_
  rintro e w5 ⟨rfl, b5⟩
  have G5 := hide (own_below G4.out b5)
  have O5 := hide (own_below O4.out b5)
  have B5 := hide (B4.out.trans (b5.mono B4.out.size))
  have K5 := hide (K4.out.below b5 K4.out.lt)
  clear b5 G4 O4 B4 K4
  go_wp2_with fail
  refine (markByteS_any g0 w3.heap.size R.length 1 _ _ G5.out (by omega) (by omega)).mono ?_
  rintro e w6 ⟨he, o6, g6⟩
  rw [← HM.out] at he
  subst he
  have G6 := hide o6
  have O6 := hide (O5.out.kept g6 (apart' w3.heap.size L2.out (fun k hk => (G5.out.lt k hk).1)))
  have B6 := hide (B5.out.grown g6 B5.out.size (fun k hk => Nat.le_trans B3.out.size (G5.out.lt k hk).1))
  have K6 := hide (show Blk w6 w.heap.size (cellsI (fsI gen bl cu ck op ev lg s1 ds1 p1 q1 s2 ds2 p2 q2 sn)) 56 from (g6.block _ K5.out.lt (fun e => by have h1 := (G5.out.lt _ e.symm).1; have h2 := l34.out; omega)).trans K5.out)
  clear o6 g6 G5 O5 B5 K5
  go_wp2_with fail
  refine (heldByteS_any g0 R.length 1 _ (Rd.own G6.out) (by omega) (by omega)).mono ?_
  rintro e wq ⟨he, hwq⟩
  rw [← HM.out] at he
  subst he
  rw [hwq]
  clear hwq wq
  go_wp2_with (first | (refine wpList_load_row rfl 56 _ rfl w.heap.size rfl 56 (cellsI (fsI gen bl cu ck op ev lg s1 ds1 p1 q1 s2 ds2 p2 q2 sn)) (0, 0) _ K6.out Tryd.underlying56 rfl (by rw [HZ.out]; exact infoL68) ?_) | (go_at_call 34; fail))
  refine (toFs_any gen bl cu ck op ev lg s1 ds1 p1 q1 s2 ds2 p2 q2 sn _ HD.out.1 HD.out.2.1 HD.out.2.2).mono ?_
  rintro e w7 ⟨rfl, b7⟩
  have B7 := hide (B6.out.trans (b7.mono B6.out.size))
  have G7 := hide (own_below G6.out b7)
  have O7 := hide (own_below O6.out b7)
  clear b7 G6 O6 B6 K6
  go_wp2_with fail
  refine (HI.out _ (HE.out.1.below B7.out) (HE.out.2.below B7.out)).mono ?_
  rintro e w8 ⟨h0, rfl, o8, b8⟩
  have H8 := hide (Rd.own o8)
  have G8 := hide (own_below G7.out b8)
  have O8 := hide (own_below O7.out b8)
  have B8 := hide (B7.out.trans (b8.mono B7.out.size))
  clear o8 b8 G7 O7 B7
  go_wp2_with fail
  refine (eqByteS_same h0 v2 R _ H8.out (Rd.own O8.out)).mono ?_
  rintro e w9 ⟨rfl, b9⟩
  have G9 := hide (own_below G8.out b9)
  have B9 := hide (B8.out.trans (b9.mono B8.out.size))
  clear b9 G8 O8 B8 H8
  go_wp2_with fail
  refine (heldByteS_any g0 R.length 1 _ (Rd.own G9.out) (by omega) (by omega)).mono ?_
  rintro e wq ⟨he, hwq⟩
  rw [← HM.out] at he
  subst he
  rw [hwq]
  clear hwq wq
  go_wp2
  go_ret
  exact ⟨rfl, B9.out⟩
end Go.Proofs.YtfpfhmnmcjnmaaaDoor

namespace Go.Proofs.YtfpfhmnmcjnmaaaDoor
set_option linter.unusedVariables false
set_option linter.unusedSimpArgs false
open Go.ChangeShapes Go.WideShapes Go.ChangeAt Go.RowKit

theorem cells1 : Tryd.prog.cellsOf 3 = 1 := by kernel_rfl
theorem cells12 : Tryd.prog.cellsOf 32 = 12 := by kernel_rfl
theorem cellsL15 : Tryd.prog.cellsOf 34 = 15 := by kernel_rfl
theorem take_one {l : List Value} {o : Nat} {c : Value} (h : (l.drop o).take 1 = [c]) : l[o]? = some c := by
  have h2 : ((l.drop o).take 1)[0]? = some c := by rw [h]; rfl
  simpa using h2

theorem ints_of_cells : ∀ (l : List Value), (∀ i, i < l.length → ∃ a, l[i]? = some (.int .i64 a)) → ∃ rs : List Int, l = rs.map (Value.int .i64)
  | [], _ => ⟨[], rfl⟩
  | c :: l, h => by
    obtain ⟨a, ha⟩ := h 0 (by simp)
    obtain ⟨rs, hrs⟩ := ints_of_cells l (fun i hi => by have := h (i + 1) (by simpa using hi); simpa using this)
    simp at ha
    exact ⟨a :: rs, by rw [ha, hrs]; rfl⟩

end Go.Proofs.YtfpfhmnmcjnmaaaDoor

namespace Go.Proofs.YtfpfhmnmcjnmaaaDoor
set_option linter.unusedVariables false
set_option linter.unusedSimpArgs false
open Go.ChangeShapes Go.WideShapes Go.ChangeAt Go.RowKit

set_option maxRecDepth 100000 in
/-- A root that came in is fifteen integers. -/
theorem open_root {H : Type} {enc : TypeId × Value → H} {W : World} {r : Reach} {b0 base : Nat} {spare : TypeId → Bool} {held : Bool} {v : Value} {d : DataW H} {pl : List MemPlace} (hv : Value.okWide Tryd.prog W r b0 34 v) (h : DataW.Trod enc Tryd.prog W base spare held 34 v d pl) :
    ∃ s ds p q, ds.length = 12 ∧ v = .agg (cellsI (rootI s ds p q)) := by
  obtain ⟨cs, rfl, hsz⟩ := Go.WideShapes.okWide_struct Tryd.underlying34 hv
  rw [cellsL15] at hsz
  obtain ⟨fuel, hf⟩ := h
  obtain ⟨xs, n, _, _, _, hl, hfld⟩ := DataW.trod_struct Tryd.underlying34 hf
  have hc : (Value.agg cs).cells.toList = cs.toList := rfl
  rw [hc] at hfld
  have h0 := hfld 0 _ rfl
  have h1 := hfld 1 _ rfl
  have h2 := hfld 2 _ rfl
  have h3 := hfld 3 _ rfl
  have hl4 : xs.length = 4 := hl
  rw [List.getElem?_eq_getElem (show 0 < xs.length by omega)] at h0
  rw [List.getElem?_eq_getElem (show 1 < xs.length by omega)] at h1
  rw [List.getElem?_eq_getElem (show 2 < xs.length by omega)] at h2
  rw [List.getElem?_eq_getElem (show 3 < xs.length by omega)] at h3
  obtain ⟨a0, e0, _⟩ := DataW.trod_int Tryd.underlying3 h0
  obtain ⟨a2, e2, _⟩ := DataW.trod_int Tryd.underlying3 h2
  obtain ⟨a3, e3, _⟩ := DataW.trod_int Tryd.underlying3 h3
  obtain ⟨ys, m, _, _, _, hy, hel⟩ := DataW.trod_array Tryd.underlying32 h1
  change (cs.toList.drop 0).take (Tryd.prog.cellsOf 3) = _ at e0
  change (cs.toList.drop 13).take (Tryd.prog.cellsOf 3) = _ at e2
  change (cs.toList.drop 14).take (Tryd.prog.cellsOf 3) = _ at e3
  rw [cells1] at e0 e2 e3
  have f0 := take_one e0
  have f2 := take_one e2
  have f3 := take_one e3
  have fa : ∀ i, i < 12 → ∃ a, cs.toList[1 + i]? = some (.int .i64 a) := by
    intro i hi
    have hi2 := hel i hi
    rw [List.getElem?_eq_getElem (by omega)] at hi2
    obtain ⟨a, ea, _⟩ := DataW.trod_int Tryd.underlying3 hi2
    change ((((cs.toList.drop 1).take (Tryd.prog.cellsOf 32)).drop (i * Tryd.prog.cellsOf 3)).take (Tryd.prog.cellsOf 3)) = _ at ea
    rw [cells1, cells12, Nat.mul_one] at ea
    have hf2 := take_one ea
    refine ⟨a, ?_⟩
    rw [List.getElem?_take, if_pos hi, List.getElem?_drop] at hf2
    exact hf2
  have hall : ∀ i, i < cs.toList.length → ∃ a, cs.toList[i]? = some (.int .i64 a) := by
    intro i hi
    rw [Array.length_toList, hsz] at hi
    by_cases g0 : i = 0
    · subst g0; exact ⟨_, f0⟩
    · by_cases g1 : i < 13
      · obtain ⟨a, ha⟩ := fa (i - 1) (by omega)
        rw [show 1 + (i - 1) = i by omega] at ha
        exact ⟨a, ha⟩
      · by_cases g2 : i = 13
        · subst g2; exact ⟨_, f2⟩
        · have g3 : i = 14 := by omega
          subst g3; exact ⟨_, f3⟩
  obtain ⟨rs, hrs⟩ := ints_of_cells cs.toList hall
  have hlr : rs.length = 15 := by
    have := congrArg List.length hrs
    rw [Array.length_toList, hsz, List.length_map] at this
    omega
  obtain ⟨s, ds, p, q, hd, rfl⟩ := root_of_list rs hlr
  refine ⟨s, ds, p, q, hd, ?_⟩
  rw [cellsI, ← hrs]
end Go.Proofs.YtfpfhmnmcjnmaaaDoor

namespace Go.Proofs.YtfpfhmnmcjnmaaaDoor
set_option linter.unusedVariables false
set_option linter.unusedSimpArgs false
open Go.ChangeShapes Go.WideShapes Go.ChangeAt Go.RowKit

theorem cellsLF : Tryd.prog.cellsOf 56 = 68 := by kernel_rfl
theorem cells31 : Tryd.prog.cellsOf 54 = 31 := by kernel_rfl
theorem cellsU8 : Tryd.prog.cellsOf 5 = 1 := by kernel_rfl
theorem split_fs (rs : List Int) (h : rs.length = 68) : ∃ gen bl cu ck op ev lg s1 ds1 p1 q1 s2 ds2 p2 q2 sn, ds1.length = 12 ∧ ds2.length = 12 ∧ sn.length = 31 ∧ rs = fsI gen bl cu ck op ev lg s1 ds1 p1 q1 s2 ds2 p2 q2 sn := by
  have root : ∀ l : List Int, l.length = 15 → ∃ s ds p q, ds.length = 12 ∧ l = rootI s ds p q := by
    intro l hl
    match l, hl with
    | [s, d0, d1, d2, d3, d4, d5, d6, d7, d8, d9, d10, d11, p, q], _ => exact ⟨s, [d0, d1, d2, d3, d4, d5, d6, d7, d8, d9, d10, d11], p, q, rfl, rfl⟩
  have seven : ∀ l : List Int, l.length = 7 → ∃ a b c d e f g, l = [a, b, c, d, e, f, g] := by
    intro l hl
    match l, hl with
    | [a, b, c, d, e, f, g], _ => exact ⟨a, b, c, d, e, f, g, rfl⟩
  obtain ⟨a, b, c, d, e, f, g, h7⟩ := seven (rs.take 7) (by simp [h])
  obtain ⟨s1, ds1, p1, q1, hd1, hr1⟩ := root ((rs.drop 7).take 15) (by simp [h])
  obtain ⟨s2, ds2, p2, q2, hd2, hr2⟩ := root (((rs.drop 7).drop 15).take 15) (by simp [h])
  refine ⟨a, b, c, d, e, f, g, s1, ds1, p1, q1, s2, ds2, p2, q2, ((rs.drop 7).drop 15).drop 15, hd1, hd2, by simp [h], ?_⟩
  unfold fsI
  rw [← h7, ← hr1, ← hr2, List.take_append_drop, List.take_append_drop, List.take_append_drop]
set_option maxRecDepth 100000 in
theorem open_fs {H : Type} {enc : TypeId × Value → H} {W : World} {r : Reach} {b0 base : Nat} {spare : TypeId → Bool} {held : Bool} {v : Value} {d : DataW H} {pl : List MemPlace} (hv : Value.okWide Tryd.prog W r b0 56 v) (h : DataW.Trod enc Tryd.prog W base spare held 56 v d pl) :
    ∃ gen bl cu ck op ev lg s1 ds1 p1 q1 s2 ds2 p2 q2 sn, ds1.length = 12 ∧ ds2.length = 12 ∧ sn.length = 31 ∧ v = .agg (cellsI (fsI gen bl cu ck op ev lg s1 ds1 p1 q1 s2 ds2 p2 q2 sn)) := by
  obtain ⟨cs, rfl, hsz⟩ := Go.WideShapes.okWide_struct Tryd.underlying56 hv
  rw [cellsLF] at hsz
  obtain ⟨fuel, hf⟩ := h
  obtain ⟨xs, n, _, _, _, hl, hfld⟩ := DataW.trod_struct Tryd.underlying56 hf
  have hc : (Value.agg cs).cells.toList = cs.toList := rfl
  rw [hc] at hfld
  have hl10 : xs.length = 10 := hl
  have h0 := hfld 0 _ rfl
  rw [List.getElem?_eq_getElem (show 0 < xs.length by omega)] at h0
  have h1 := hfld 1 _ rfl
  rw [List.getElem?_eq_getElem (show 1 < xs.length by omega)] at h1
  have h2 := hfld 2 _ rfl
  rw [List.getElem?_eq_getElem (show 2 < xs.length by omega)] at h2
  have h3 := hfld 3 _ rfl
  rw [List.getElem?_eq_getElem (show 3 < xs.length by omega)] at h3
  have h4 := hfld 4 _ rfl
  rw [List.getElem?_eq_getElem (show 4 < xs.length by omega)] at h4
  have h5 := hfld 5 _ rfl
  rw [List.getElem?_eq_getElem (show 5 < xs.length by omega)] at h5
  have h6 := hfld 6 _ rfl
  rw [List.getElem?_eq_getElem (show 6 < xs.length by omega)] at h6
  have h7 := hfld 7 _ rfl
  rw [List.getElem?_eq_getElem (show 7 < xs.length by omega)] at h7
  have h8 := hfld 8 _ rfl
  rw [List.getElem?_eq_getElem (show 8 < xs.length by omega)] at h8
  have h9 := hfld 9 _ rfl
  rw [List.getElem?_eq_getElem (show 9 < xs.length by omega)] at h9
  obtain ⟨x0, e0, _⟩ := DataW.trod_int Tryd.underlying3 h0
  change (cs.toList.drop 0).take (Tryd.prog.cellsOf 3) = _ at e0
  rw [cells1] at e0
  have f0 := take_one e0
  obtain ⟨x1, e1, _⟩ := DataW.trod_int Tryd.underlying3 h1
  change (cs.toList.drop 1).take (Tryd.prog.cellsOf 3) = _ at e1
  rw [cells1] at e1
  have f1 := take_one e1
  obtain ⟨x2, e2, _⟩ := DataW.trod_int Tryd.underlying3 h2
  change (cs.toList.drop 2).take (Tryd.prog.cellsOf 3) = _ at e2
  rw [cells1] at e2
  have f2 := take_one e2
  obtain ⟨x3, e3, _⟩ := DataW.trod_int Tryd.underlying3 h3
  change (cs.toList.drop 3).take (Tryd.prog.cellsOf 3) = _ at e3
  rw [cells1] at e3
  have f3 := take_one e3
  obtain ⟨x4, e4, _⟩ := DataW.trod_int Tryd.underlying3 h4
  change (cs.toList.drop 4).take (Tryd.prog.cellsOf 3) = _ at e4
  rw [cells1] at e4
  have f4 := take_one e4
  obtain ⟨x5, e5, _⟩ := DataW.trod_int Tryd.underlying3 h5
  change (cs.toList.drop 5).take (Tryd.prog.cellsOf 3) = _ at e5
  rw [cells1] at e5
  have f5 := take_one e5
  obtain ⟨x6, e6, _⟩ := DataW.trod_int Tryd.underlying3 h6
  change (cs.toList.drop 6).take (Tryd.prog.cellsOf 3) = _ at e6
  rw [cells1] at e6
  have f6 := take_one e6
  have Ra : ∀ i, i < 15 → ∃ z, cs.toList[7 + i]? = some (.int .i64 z) := by
    obtain ⟨ys, m, _, _, _, hy, hroot⟩ := DataW.trod_struct Tryd.underlying34 h7
    have hy4 : ys.length = 4 := hy
    have r0 := hroot 0 _ rfl
    have r1 := hroot 1 _ rfl
    have r2 := hroot 2 _ rfl
    have r3 := hroot 3 _ rfl
    rw [List.getElem?_eq_getElem (show 0 < ys.length by omega)] at r0
    rw [List.getElem?_eq_getElem (show 1 < ys.length by omega)] at r1
    rw [List.getElem?_eq_getElem (show 2 < ys.length by omega)] at r2
    rw [List.getElem?_eq_getElem (show 3 < ys.length by omega)] at r3
    obtain ⟨y0, u0, _⟩ := DataW.trod_int Tryd.underlying3 r0
    obtain ⟨y2, u2, _⟩ := DataW.trod_int Tryd.underlying3 r2
    obtain ⟨y3, u3, _⟩ := DataW.trod_int Tryd.underlying3 r3
    obtain ⟨zs, m2, _, _, _, hz, hel⟩ := DataW.trod_array Tryd.underlying32 r1
    change ((((cs.toList.drop 7).take (Tryd.prog.cellsOf 34)).drop 0).take (Tryd.prog.cellsOf 3)) = _ at u0
    change ((((cs.toList.drop 7).take (Tryd.prog.cellsOf 34)).drop 13).take (Tryd.prog.cellsOf 3)) = _ at u2
    change ((((cs.toList.drop 7).take (Tryd.prog.cellsOf 34)).drop 14).take (Tryd.prog.cellsOf 3)) = _ at u3
    rw [cells1, cellsL15] at u0 u2 u3
    have hin : ∀ i c, i < 15 → ((cs.toList.drop 7).take 15)[i]? = some c → cs.toList[7 + i]? = some c := by
      intro i c hi h
      rw [List.getElem?_take, if_pos hi, List.getElem?_drop] at h
      exact h
    have g0 := hin 0 _ (by omega) (take_one u0)
    have g2 := hin 13 _ (by omega) (take_one u2)
    have g3 := hin 14 _ (by omega) (take_one u3)
    have fa : ∀ i, i < 12 → ∃ a, cs.toList[7 + (1 + i)]? = some (.int .i64 a) := by
      intro i hi
      have hi2 := hel i hi
      rw [List.getElem?_eq_getElem (by omega)] at hi2
      obtain ⟨a, ea, _⟩ := DataW.trod_int Tryd.underlying3 hi2
      change ((((((cs.toList.drop 7).take (Tryd.prog.cellsOf 34)).drop 1).take (Tryd.prog.cellsOf 32)).drop (i * Tryd.prog.cellsOf 3)).take (Tryd.prog.cellsOf 3)) = _ at ea
      rw [cells1, cells12, cellsL15, Nat.mul_one] at ea
      have hf2 := take_one ea
      rw [List.getElem?_take, if_pos hi, List.getElem?_drop] at hf2
      exact ⟨a, hin (1 + i) _ (by omega) hf2⟩
    intro i hi
    by_cases q0 : i = 0
    · subst q0; exact ⟨_, g0⟩
    · by_cases q1 : i < 13
      · obtain ⟨a, ha⟩ := fa (i - 1) (by omega)
        rw [show 7 + (1 + (i - 1)) = 7 + i by omega] at ha
        exact ⟨a, ha⟩
      · by_cases q2 : i = 13
        · subst q2; exact ⟨_, g2⟩
        · have q3 : i = 14 := by omega
          subst q3; exact ⟨_, g3⟩
  have Rb : ∀ i, i < 15 → ∃ z, cs.toList[22 + i]? = some (.int .i64 z) := by
    obtain ⟨ys, m, _, _, _, hy, hroot⟩ := DataW.trod_struct Tryd.underlying34 h8
    have hy4 : ys.length = 4 := hy
    have r0 := hroot 0 _ rfl
    have r1 := hroot 1 _ rfl
    have r2 := hroot 2 _ rfl
    have r3 := hroot 3 _ rfl
    rw [List.getElem?_eq_getElem (show 0 < ys.length by omega)] at r0
    rw [List.getElem?_eq_getElem (show 1 < ys.length by omega)] at r1
    rw [List.getElem?_eq_getElem (show 2 < ys.length by omega)] at r2
    rw [List.getElem?_eq_getElem (show 3 < ys.length by omega)] at r3
    obtain ⟨y0, u0, _⟩ := DataW.trod_int Tryd.underlying3 r0
    obtain ⟨y2, u2, _⟩ := DataW.trod_int Tryd.underlying3 r2
    obtain ⟨y3, u3, _⟩ := DataW.trod_int Tryd.underlying3 r3
    obtain ⟨zs, m2, _, _, _, hz, hel⟩ := DataW.trod_array Tryd.underlying32 r1
    change ((((cs.toList.drop 22).take (Tryd.prog.cellsOf 34)).drop 0).take (Tryd.prog.cellsOf 3)) = _ at u0
    change ((((cs.toList.drop 22).take (Tryd.prog.cellsOf 34)).drop 13).take (Tryd.prog.cellsOf 3)) = _ at u2
    change ((((cs.toList.drop 22).take (Tryd.prog.cellsOf 34)).drop 14).take (Tryd.prog.cellsOf 3)) = _ at u3
    rw [cells1, cellsL15] at u0 u2 u3
    have hin : ∀ i c, i < 15 → ((cs.toList.drop 22).take 15)[i]? = some c → cs.toList[22 + i]? = some c := by
      intro i c hi h
      rw [List.getElem?_take, if_pos hi, List.getElem?_drop] at h
      exact h
    have g0 := hin 0 _ (by omega) (take_one u0)
    have g2 := hin 13 _ (by omega) (take_one u2)
    have g3 := hin 14 _ (by omega) (take_one u3)
    have fa : ∀ i, i < 12 → ∃ a, cs.toList[22 + (1 + i)]? = some (.int .i64 a) := by
      intro i hi
      have hi2 := hel i hi
      rw [List.getElem?_eq_getElem (by omega)] at hi2
      obtain ⟨a, ea, _⟩ := DataW.trod_int Tryd.underlying3 hi2
      change ((((((cs.toList.drop 22).take (Tryd.prog.cellsOf 34)).drop 1).take (Tryd.prog.cellsOf 32)).drop (i * Tryd.prog.cellsOf 3)).take (Tryd.prog.cellsOf 3)) = _ at ea
      rw [cells1, cells12, cellsL15, Nat.mul_one] at ea
      have hf2 := take_one ea
      rw [List.getElem?_take, if_pos hi, List.getElem?_drop] at hf2
      exact ⟨a, hin (1 + i) _ (by omega) hf2⟩
    intro i hi
    by_cases q0 : i = 0
    · subst q0; exact ⟨_, g0⟩
    · by_cases q1 : i < 13
      · obtain ⟨a, ha⟩ := fa (i - 1) (by omega)
        rw [show 22 + (1 + (i - 1)) = 22 + i by omega] at ha
        exact ⟨a, ha⟩
      · by_cases q2 : i = 13
        · subst q2; exact ⟨_, g2⟩
        · have q3 : i = 14 := by omega
          subst q3; exact ⟨_, g3⟩
  have R3 : ∀ i, i < 31 → ∃ z, cs.toList[37 + i]? = some (.int .i64 z) := by
    obtain ⟨zs, m2, _, _, _, hz, hel⟩ := DataW.trod_array Tryd.underlying54 h9
    intro i hi
    have hi2 := hel i hi
    rw [List.getElem?_eq_getElem (by omega)] at hi2
    obtain ⟨a, ea, _⟩ := DataW.trod_int Tryd.underlying3 hi2
    change ((((cs.toList.drop 37).take (Tryd.prog.cellsOf 54)).drop (i * Tryd.prog.cellsOf 3)).take (Tryd.prog.cellsOf 3)) = _ at ea
    rw [cells1, cells31, Nat.mul_one] at ea
    have hf2 := take_one ea
    rw [List.getElem?_take, if_pos hi, List.getElem?_drop] at hf2
    exact ⟨a, hf2⟩
  have hlen : cs.toList.length = 68 := by rw [Array.length_toList, hsz]
  obtain ⟨rs, hrs⟩ := ints_of_cells cs.toList (by
    intro i hi
    rw [hlen] at hi
    by_cases q0 : i < 7
    · match i, q0 with
      | 0, _ => exact ⟨_, f0⟩
      | 1, _ => exact ⟨_, f1⟩
      | 2, _ => exact ⟨_, f2⟩
      | 3, _ => exact ⟨_, f3⟩
      | 4, _ => exact ⟨_, f4⟩
      | 5, _ => exact ⟨_, f5⟩
      | 6, _ => exact ⟨_, f6⟩
    · by_cases q1 : i < 22
      · obtain ⟨z, hz⟩ := Ra (i - 7) (by omega)
        rw [show 7 + (i - 7) = i by omega] at hz
        exact ⟨z, hz⟩
      · by_cases q2 : i < 37
        · obtain ⟨z, hz⟩ := Rb (i - 22) (by omega)
          rw [show 22 + (i - 22) = i by omega] at hz
          exact ⟨z, hz⟩
        · obtain ⟨z, hz⟩ := R3 (i - 37) (by omega)
          rw [show 37 + (i - 37) = i by omega] at hz
          exact ⟨z, hz⟩)
  have hlr : rs.length = 68 := by
    have := congrArg List.length hrs
    rw [hlen, List.length_map] at this
    omega
  obtain ⟨gen, bl, cu, ck, op, ev, lg, s1, ds1, p1, q1, s2, ds2, p2, q2, sn, hd1, hd2, hsn, rfl⟩ := split_fs rs hlr
  refine ⟨gen, bl, cu, ck, op, ev, lg, s1, ds1, p1, q1, s2, ds2, p2, q2, sn, hd1, hd2, hsn, ?_⟩
  have e2 : cs = cellsI (fsI gen bl cu ck op ev lg s1 ds1 p1 q1 s2 ds2 p2 q2 sn) := by
    apply Array.ext'
    rw [hrs]
    simp [cellsI]
  rw [e2]
theorem d_let : Tryd.prog.globalNamed "loop.example/s02533/impl.fsinfoLetters" = some 1 := by kernel_rfl
theorem d_lett : (Tryd.prog.globals[1]?).map (·.type) = some 121 := by kernel_rfl
theorem d_letu : Tryd.prog.underlying 121 = some (.array 8 5) := by kernel_rfl
theorem letF_of {W : World} (h : laidMet Tryd.prog [("loop.example/s02533/impl.fsinfoLetters", Rows.laid_loop_example_s02533_impl_fsinfoLetters)] W) : LetF W := by
  obtain ⟨ps, ⟨g, t, cs, fuel, p, q, h1, h2, h3, h4, _, _⟩, _⟩ := h
  obtain rfl := Option.some.inj (d_let.symm.trans h1)
  obtain rfl := Option.some.inj (d_lett.symm.trans h2)
  obtain ⟨xs, m, _, hx, hlen, hxl, hel⟩ := DataW.trod_array d_letu h4
  have hx1 : Rows.laid_loop_example_s02533_impl_fsinfoLetters = DataW.agg (xs.map (·.1)) := congrArg Prod.fst hx
  unfold Rows.laid_loop_example_s02533_impl_fsinfoLetters at hx1
  injection hx1 with hx2
  intro j v hv
  rw [Nat.zero_add, World.var?_cell d_let h3 j]
  have hj : j < 8 := by
    rcases Nat.lt_or_ge j 8 with h | h
    · exact h
    · rw [List.getElem?_eq_none (by simp [fsLet]; omega)] at hv; cases hv
  have he := hel j hj
  rw [cellsU8, Nat.mul_one, List.getElem?_eq_getElem (by omega)] at he
  obtain ⟨a, ea, hxa, _⟩ := DataW.trod_int Tryd.underlying5 he
  have hc := take_one ea
  have hd : (xs.map (·.1))[j]? = some (.lit (.int .u8 a)) := by
    rw [List.getElem?_map, List.getElem?_eq_getElem (by omega), hxa]; rfl
  rw [← hx2] at hd
  rw [show cs[j]? = cs.toList[j]? from by simp, hc, ← hv]
  match j, hj with
  | 0, _ | 1, _ | 2, _ | 3, _ | 4, _ | 5, _ | 6, _ | 7, _ =>
    simp at hd
    subst hd
    rfl
/-- A world that meets both conditions. -/
noncomputable def laidWorldF (os : Os) : World :=
  let w0 := laidWorld os
  { w0 with heap := w0.heap.modify 1 fun
      | .cells _ t frozen => .cells #[.int .u8 114, .int .u8 111, .int .u8 111, .int .u8 116, .int .u8 114, .int .u8 101, .int .u8 99, .int .u8 49] t frozen
      | o => o }
end Go.Proofs.YtfpfhmnmcjnmaaaDoor
