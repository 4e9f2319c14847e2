/- An operation drawn over the new state: the head of L08Op, whose one statement draws its order. -/
import Derived.Test.YtohmjfagbhnieaaGreatDoorZl29
import Derived.Deep.DeepCutAuto
import Derived.Deep.CutBlock
import Derived.Deep.RegionWith
namespace Go.Proofs.YtohmjfagbhnieaaGreatDoor
set_option linter.unusedVariables false
set_option linter.unusedSimpArgs false
open Go.RowKit

set_option maxRecDepth 100000 in
set_option maxHeartbeats 16000000 in
theorem op_drawn {w0 W : World} {b D : Nat} {cv : Value} {cs : List Int} (h : Sc w0 W b cv cs) (hD : Blk W D nodes0 61) (hne : D ≠ b) :
    Calls Tryz.prog 8 #[.pointer (some ⟨b, 0, none⟩), .agg #[.int .i64 1, .slice (some ⟨D, 0, none⟩) 2 2], .int .i64 9] W fun e w' => ∃ (K A B U G : Int) (p q : ByteArray) (v : Value), e = .returned (.agg (opC K A B U G p q v)) ∧ 1 ≤ K ∧ K ≤ 17 ∧ OpF w' W.heap.size A B p q v ∧ Sc w0 w' b cv cs ∧ W.grownBy w' (some b) := by
  obtain ⟨i0, hi, hzz0, hzz1, hzz2⟩ := info_parts infoU8
  have R0 := hide (OpR.start h hD hne)
  clear h hD
  go_enter Tryz.func8, Tryz.ntmps8
  go_upto_region 1 with fail
  refine op_head R0.out _ _ (fun g K wx u8 u9 u10 u11 u12 u13 u14 hO => ?_)
  clear R0
  have HO := hide hO
  clear hO
  go_upto_if 16 with (go_at_call 20; refine (HO.out.dn.sc.One 4 (by omega) (by omega)).mono ?_; rintro e x1 ⟨t1, rfl, s, d⟩; have H1 := hide (HO.out.draw s d); clear s d)
  go_cut [] (fun wx => ∃ K, OpS w0 W wx b D g cv cs K)
  case first =>
    cases t1 with
    | true =>
      have HA := hide (H1.out.fresh (show Below x1.heap.size x1 (x1.alloc (.cells (cellsI [1, 2, 8, 8, 7, 3]) 3)) from (Below.refl _ _).alloc (Nat.le_refl _) _))
      have KA := hide (Blk.new x1 (cellsI [1, 2, 8, 8, 7, 3]) 3)
      have hlt := hide (show b ≠ x1.heap.size by have := H1.out.dn.gb.size; have := H1.out.dn.lt; omega)
      go_wp2_with fail
      refine (HA.out.dn.sc.N 6 (by omega) (by omega)).mono ?_
      rintro e y1 ⟨z, rfl, hz0, hz1, s, d⟩
      have HB := hide (HA.out.draw s d)
      obtain ⟨y, cy, hy0, hy1⟩ := cell_ofB (KA.out.drawn d hlt.out.symm) 1 18 (by decide) z hz0 (by simpa using hz1)
      clear s d
      obtain ⟨⟨uu, cu⟩, fu⟩ := HB.out.there 0 (by omega)
      have HC := hide (HB.out.setK y hy0 (by omega))
      go_wp2_with fail
      go_meet
      exact ⟨_, HC.out⟩
    | false =>
      go_wp2_with fail
      go_meet
      exact ⟨_, H1.out⟩
  case rest =>
  clear HO H1
  obtain ⟨K, hO⟩ := hcut
  have HO := hide hO
  clear hO
  go_upto_if 26 with (go_at_call 5; refine (HO.out.dn.sc.N 10 (by omega) (by omega)).mono ?_; rintro e x2 ⟨z2, rfl, hza2, hzb2, s, d⟩; have H2 := hide (HO.out.draw s d); clear s d)
  go_cut [] (fun wx => ∃ K, OpS w0 W wx b D g cv cs K)
  case first =>
    by_cases h9 : (9 : Int) ≤ z2
    · skip
      go_wp2_with fail
      refine (H2.out.dn.sc.N 4 (by omega) (by omega)).mono ?_
      rintro e x3 ⟨z3, rfl, hza3, hzb3, s, d⟩
      have H3 := hide (H2.out.draw s d)
      clear s d
      obtain ⟨⟨u503, cu3⟩, fu3⟩ := H3.out.there 3 (by omega)
      have H4 := hide (H3.out.setU (z3))
      go_wp2_with fail
      refine (H4.out.dn.sc.N 3 (by omega) (by omega)).mono ?_
      rintro e x5 ⟨z5, rfl, hza5, hzb5, s, d⟩
      have H5 := hide (H4.out.draw s d)
      clear s d
      obtain ⟨⟨u504, cu4⟩, fu4⟩ := H5.out.there 4 (by omega)
      have H6 := hide (H5.out.setG (z5))
      go_wp2_with fail
      go_meet
      exact ⟨_, H6.out⟩
    · skip
      go_wp2_with fail
      go_meet
      exact ⟨_, H2.out⟩
  case rest =>
  clear HO H2
  obtain ⟨K, hO⟩ := hcut
  have HO := hide hO
  clear hO
  have ck := HO.out.kind
  go_upto_block 0 with fail
  refine op_switch HO.out hne _ _ _ _ _ _ _ _ _ _ _ _ _ _ _ _ _ _ _ _ _ _ _ _ _ _ _ _ _ _ _ _ _ _ _ _ _ _ _ _ _ _ _ _ _ _ _ _ _ _ _ _ _ _ _ _ _ _ _ _ _ _ _ _ _ _ _ _ _ _ _ _ _ _ _ _ _ _ _ _ _ _ _ _ _ _ _ _ _ _ _ _ _ _ _ _ _ _ _ _ _ _ _ _ _ _ _ _ _ _ _ _ _ _ _ _ _ _ _ _ _ _ _ _ _ _ _ _ _ _ _ _ _ _ _ _ _ _ _ _ _ _ _ _ _ _ _ _ _ _ _ _ _ _ (fun K wx u8 u9 u10 u11 u12 u13 u14 u15 u16 u17 u18 u19 u20 u21 u22 u23 u24 u25 u26 u27 u28 u29 u30 u31 u32 u33 u34 u35 u36 u37 u38 u39 u40 u41 u42 u43 u44 u45 u46 u47 u48 u49 u50 u51 u52 u53 u54 u55 u56 u57 u58 u59 u60 u61 u62 u63 u64 u65 u66 u67 u68 u69 u70 u71 u72 u73 u74 u75 u76 u77 u78 u79 u80 u81 u82 u83 u84 u85 u86 u87 u88 u89 u90 u91 u92 u93 u94 u95 u96 u97 u98 u99 u100 u101 u102 u103 u104 u105 u106 u107 u108 u109 u110 u111 u112 u113 u114 u115 u116 u117 u118 u119 u120 u121 u122 u123 u124 u125 u126 u127 u128 u129 u130 u131 u132 u133 u134 u135 u136 u137 u138 u139 u140 u141 u142 u143 u144 u145 u146 u147 u148 u149 u150 u151 u152 u153 u154 u155 u156 u157 u158 u159 u160 hO => ?_)
  clear HO ck
  have HO := hide hO
  clear hO
  go_upto_if 135 with (go_at_call 20; refine (HO.out.dn.sc.One 40 (by omega) (by omega)).mono ?_; rintro e x61 ⟨t61, rfl, s, d⟩; have H61 := hide (HO.out.draw s d); clear s d)
  go_cut [] (fun wx => ∃ K, OpS w0 W wx b D g cv cs K)
  case first =>
    cases t61 with
    | true =>
      go_wp2_with fail
      refine (H61.out.dn.sc.N 4 (by omega) (by omega)).mono ?_
      rintro e x62 ⟨z, rfl, hz0, hz1, s, d⟩
      have H62 := hide (H61.out.draw s d)
      clear s d
      have hz : z = 0 ∨ z = 1 ∨ z = 2 ∨ z = 3 := by omega
      clear hz0 hz1
      rcases hz with rfl | rfl | rfl | rfl
      · skip
        go_wp2_with fail
        refine (wild64 H62.out.dn.sc).mono ?_
        rintro e x63 ⟨zw, rfl, hw, s, d⟩
        have H63 := hide (H62.out.draw s d)
        clear s d
        obtain ⟨⟨u501, cu1⟩, fu1⟩ := H63.out.there 1 (by omega)
        have H64 := hide (H63.out.setA zw hw)
        go_wp2_with fail
        go_meet
        exact ⟨_, H64.out⟩
      · skip
        go_wp2_with fail
        refine (wild64 H62.out.dn.sc).mono ?_
        rintro e x65 ⟨zw, rfl, hw, s, d⟩
        have H65 := hide (H62.out.draw s d)
        clear s d
        obtain ⟨⟨u502, cu2⟩, fu2⟩ := H65.out.there 2 (by omega)
        have H66 := hide (H65.out.setB zw hw)
        go_wp2_with fail
        go_meet
        exact ⟨_, H66.out⟩
      · skip
        go_wp2_with fail
        refine (wild64 H62.out.dn.sc).mono ?_
        rintro e x67 ⟨zw, rfl, hw, s, d⟩
        have H67 := hide (H62.out.draw s d)
        clear s d
        obtain ⟨⟨u503, cu3⟩, fu3⟩ := H67.out.there 3 (by omega)
        have H68 := hide (H67.out.setU zw)
        go_wp2_with fail
        go_meet
        exact ⟨_, H68.out⟩
      · skip
        go_wp2_with fail
        refine (H62.out.dn.sc.N 2 (by omega) (by omega)).mono ?_
        rintro e x69 ⟨z, rfl, hz0, hz1, s, d⟩
        have H69 := hide (H62.out.draw s d)
        clear s d
        have hz : z = 0 ∨ z = 1 := by omega
        clear hz0 hz1
        rcases hz with rfl | rfl
        · skip
          go_wp2_with (refine wpList_make_full _ rfl _ _ 22 rfl x69.heap.size 5 i0 (.int .u8 0) 1 Tryz.underlying22 hi hzz0 hzz1 .i64 .i64 4096 4096 4096 rfl rfl rfl rfl (by rw [hzz2]; omega) (by unfold maxLen; omega) (Nat.le_refl _) ?_; intro w3 hown3 hgr3; rw [made_one _ _ rfl] at hown3; have HM := hide (H69.out.fresh ((Below.refl _ _).grown hgr3 (Nat.le_refl _) (fun k e => by cases e))); have HR := hide (own_rep hown3); have hgl := hide H69.out.gle; clear hgr3 hown3; obtain ⟨⟨u7, cu7⟩, fu7⟩ := HM.out.there 7 (by omega))
          have HX := hide (HM.out.setD _ (List.replicate 4096 0) (by simp) (Byt.rep 4096) (by rw [List.length_replicate]; exact own_mono HR.out (by have := hgl.out; omega)))
          go_meet
          exact ⟨_, HX.out⟩
        · skip
          go_wp2_with (refine wpList_make_full _ rfl _ _ 22 rfl x69.heap.size 5 i0 (.int .u8 0) 1 Tryz.underlying22 hi hzz0 hzz1 .i64 .i64 4097 4097 4097 rfl rfl rfl rfl (by rw [hzz2]; omega) (by unfold maxLen; omega) (Nat.le_refl _) ?_; intro w3 hown3 hgr3; rw [made_one _ _ rfl] at hown3; have HM := hide (H69.out.fresh ((Below.refl _ _).grown hgr3 (Nat.le_refl _) (fun k e => by cases e))); have HR := hide (own_rep hown3); have hgl := hide H69.out.gle; clear hgr3 hown3; obtain ⟨⟨u7, cu7⟩, fu7⟩ := HM.out.there 7 (by omega))
          have HX := hide (HM.out.setD _ (List.replicate 4097 0) (by simp) (Byt.rep 4097) (by rw [List.length_replicate]; exact own_mono HR.out (by have := hgl.out; omega)))
          go_meet
          exact ⟨_, HX.out⟩
    | false =>
      go_wp2_with fail
      go_meet
      exact ⟨_, H61.out⟩
  case rest =>
  clear HO H61
  obtain ⟨K, hO⟩ := hcut
  obtain ⟨A, B, U, G, pp, qq, v, kO, fO⟩ := hO.op
  obtain ⟨zs, hzl, hzB, hzo⟩ := fO.2.2.2.2
  obtain ⟨va, vc, rfl⟩ := shape_row hzo
  have HE := hide (opC_one1 K A B U G pp qq va zs.length vc)
  have HO := hide hO
  have HK := hide kO
  have HF := hide fO
  clear hO kO fO hzo
  go_wp2_with (first | (refine wpList_load_row rfl 30 _ rfl g rfl 30 (opC K A B U G pp qq (.slice va zs.length vc)) (0, 0) _ HK.out Tryz.underlying30 rfl infoO8 ?_) | (refine wpList_store_row rfl 30 _ _ rfl (W.heap.size + 1) (opC K A B U G pp qq (.slice va zs.length vc)) rfl rfl 30 zeroOp HO.out.rs infoO8 rfl HE.out ?_) | fail)
  have HB := hide (below_setRow (Below.refl (W.heap.size + 1) wc) (Nat.le_refl _) (opC K A B U G pp qq (.slice va zs.length vc)))
  refine bodyPost_ret (v := .agg (opC K A B U G pp qq (.slice va zs.length vc))) ?_ rfl ⟨K, A, B, U, G, pp, qq, _, rfl, HO.out.k0, HO.out.k1, OpF.other HF.out HO.out.g2, (HO.out.dn.own (HB.out.mono (by omega))).sc, (HO.out.dn.own (HB.out.mono (by omega))).gb⟩
  exact results_cell_row rfl _ _ (W.heap.size + 1) 30 _ (0, 0) _ rfl (HO.out.rs.row _) Tryz.underlying30 rfl infoO8
end Go.Proofs.YtohmjfagbhnieaaGreatDoor
