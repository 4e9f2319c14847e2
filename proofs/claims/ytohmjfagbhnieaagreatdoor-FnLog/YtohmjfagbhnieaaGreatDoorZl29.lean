/- An operation drawn over the new state: the head of L08Op, whose one statement draws its order. -/
import Derived.Test.YtohmjfagbhnieaaGreatDoorZl28
import Derived.Deep.DeepCutAuto
import Derived.Deep.CutBlock
import Derived.Deep.RegionWith
namespace Go.Proofs.YtohmjfagbhnieaaGreatDoor
set_option linter.unusedVariables false
set_option linter.unusedSimpArgs false
open Go.RowKit

set_option maxRecDepth 100000 in
set_option maxHeartbeats 16000000 in
theorem op_switch {w0 W wr : World} {b D g : Nat} {cv : Value} {cs : List Int} {K : Int} (h : OpS w0 W wr b D g cv cs K) (hne : D ≠ b) (x8 x9 x10 x11 x12 x13 x14 x15 x16 x17 x18 x19 x20 x21 x22 x23 x24 x25 x26 x27 x28 x29 x30 x31 x32 x33 x35 x36 x37 x38 x39 x40 x41 x42 x43 x44 x45 x46 x47 x48 x49 x50 x51 x52 x53 x54 x55 x56 x57 x58 x59 x60 x61 x62 x63 x64 x65 x66 x67 x68 x69 x70 x71 x72 x73 x74 x75 x76 x77 x78 x79 x80 x81 x82 x83 x84 x85 x86 x87 x88 x89 x90 x91 x92 x93 x94 x95 x96 x97 x98 x99 x100 x101 x102 x103 x104 x105 x106 x107 x108 x109 x110 x111 x112 x113 x114 x115 x116 x117 x118 x119 x120 x121 x122 x123 x124 x125 x126 x127 x128 x129 x130 x131 x132 x133 x134 x135 x136 x137 x138 x139 x140 x141 x142 x143 x144 x145 x146 x147 x148 x149 x150 x151 x152 x153 x154 x155 x156 x157 x158 x159 x160 : Value) (Q' : Exit → Act → World → Prop) (K' : Act → World → Prop)
    (hQ : ∀ (K : Int) (wx : World) (u8 u9 u10 u11 u12 u13 u14 u15 u16 u17 u18 u19 u20 u21 u22 u23 u24 u25 u26 u27 u28 u29 u30 u31 u32 u33 u34 u35 u36 u37 u38 u39 u40 u41 u42 u43 u44 u45 u46 u47 u48 u49 u50 u51 u52 u53 u54 u55 u56 u57 u58 u59 u60 u61 u62 u63 u64 u65 u66 u67 u68 u69 u70 u71 u72 u73 u74 u75 u76 u77 u78 u79 u80 u81 u82 u83 u84 u85 u86 u87 u88 u89 u90 u91 u92 u93 u94 u95 u96 u97 u98 u99 u100 u101 u102 u103 u104 u105 u106 u107 u108 u109 u110 u111 u112 u113 u114 u115 u116 u117 u118 u119 u120 u121 u122 u123 u124 u125 u126 u127 u128 u129 u130 u131 u132 u133 u134 u135 u136 u137 u138 u139 u140 u141 u142 u143 u144 u145 u146 u147 u148 u149 u150 u151 u152 u153 u154 u155 u156 u157 u158 u159 u160 : Value), OpS w0 W wx b D g cv cs K → K' ⟨#[.pointer (some ⟨b, 0, none⟩), .agg #[.int .i64 1, .slice (some ⟨D, 0, none⟩) 2 2], .int .i64 9, undef, .pointer (some ⟨W.heap.size, 0, none⟩), undef, .pointer (some ⟨W.heap.size + 1, 0, none⟩), .pointer (some ⟨g, 0, none⟩), u8, u9, u10, u11, u12, u13, u14, u15, u16, u17, u18, u19, u20, u21, u22, u23, u24, u25, u26, u27, u28, u29, u30, u31, u32, u33, u34, u35, u36, u37, u38, u39, u40, u41, u42, u43, u44, u45, u46, u47, u48, u49, u50, u51, u52, u53, u54, u55, u56, u57, u58, u59, u60, u61, u62, u63, u64, u65, u66, u67, u68, u69, u70, u71, u72, u73, u74, u75, u76, u77, u78, u79, u80, u81, u82, u83, u84, u85, u86, u87, u88, u89, u90, u91, u92, u93, u94, u95, u96, u97, u98, u99, u100, u101, u102, u103, u104, u105, u106, u107, u108, u109, u110, u111, u112, u113, u114, u115, u116, u117, u118, u119, u120, u121, u122, u123, u124, u125, u126, u127, u128, u129, u130, u131, u132, u133, u134, u135, u136, u137, u138, u139, u140, u141, u142, u143, u144, u145, u146, u147, u148, u149, u150, u151, u152, u153, u154, u155, u156, u157, u158, u159, u160], []⟩ wx) :
    Code.wp Tryz.prog (sndC (fstC (sndC (sndC (sndC (sndC (Tryz.f8.body.getD .skip))))))) (Exit.then K' Q') ⟨#[.pointer (some ⟨b, 0, none⟩), .agg #[.int .i64 1, .slice (some ⟨D, 0, none⟩) 2 2], .int .i64 9, undef, .pointer (some ⟨W.heap.size, 0, none⟩), undef, .pointer (some ⟨W.heap.size + 1, 0, none⟩), .pointer (some ⟨g, 0, none⟩), x8, x9, x10, x11, x12, x13, x14, x15, x16, x17, x18, x19, x20, x21, x22, x23, x24, x25, x26, x27, x28, x29, x30, x31, x32, x33, .int .i64 K, x35, x36, x37, x38, x39, x40, x41, x42, x43, x44, x45, x46, x47, x48, x49, x50, x51, x52, x53, x54, x55, x56, x57, x58, x59, x60, x61, x62, x63, x64, x65, x66, x67, x68, x69, x70, x71, x72, x73, x74, x75, x76, x77, x78, x79, x80, x81, x82, x83, x84, x85, x86, x87, x88, x89, x90, x91, x92, x93, x94, x95, x96, x97, x98, x99, x100, x101, x102, x103, x104, x105, x106, x107, x108, x109, x110, x111, x112, x113, x114, x115, x116, x117, x118, x119, x120, x121, x122, x123, x124, x125, x126, x127, x128, x129, x130, x131, x132, x133, x134, x135, x136, x137, x138, x139, x140, x141, x142, x143, x144, x145, x146, x147, x148, x149, x150, x151, x152, x153, x154, x155, x156, x157, x158, x159, x160], []⟩ wr := by
  have HO := hide h
  have hK0 := h.k0
  have hK1 := h.k1
  have cs0 := (h.st.cell 0).trans (show _ = some (.int .i64 1) from rfl)
  have cs1 := (h.st.cell 1).trans (show _ = some (.slice (some ⟨D, 0, none⟩) 2 2) from rfl)
  have HQ := hide hQ
  clear h hQ
  conv => arg 2; whnf
  rcases kind17 hK0 hK1 with rfl | rfl | rfl | rfl | rfl | rfl | rfl | rfl | rfl | rfl | rfl | rfl | rfl | rfl | rfl | rfl | rfl
  · skip
    go_wp2_with fail
    refine (mode_drawn HO.out.dn.sc).mono ?_
    rintro e x7 ⟨zm, rfl, hm0, hm1, s, d⟩
    have H7 := hide (HO.out.draw s d)
    clear s d
    obtain ⟨⟨u501, cu1⟩, fu1⟩ := H7.out.there 1 (by omega)
    have H8 := hide (H7.out.setA zm (by unfold In64; omega))
    go_wp2_with fail
    exact HQ.out _ _ _ _ _ _ _ _ _ _ _ _ _ _ _ _ _ _ _ _ _ _ _ _ _ _ _ _ _ _ _ _ _ _ _ _ _ _ _ _ _ _ _ _ _ _ _ _ _ _ _ _ _ _ _ _ _ _ _ _ _ _ _ _ _ _ _ _ _ _ _ _ _ _ _ _ _ _ _ _ _ _ _ _ _ _ _ _ _ _ _ _ _ _ _ _ _ _ _ _ _ _ _ _ _ _ _ _ _ _ _ _ _ _ _ _ _ _ _ _ _ _ _ _ _ _ _ _ _ _ _ _ _ _ _ _ _ _ _ _ _ _ _ _ _ _ _ _ _ _ _ _ _ _ _ H8.out
  · skip
    go_wp2_with fail
    refine (mode_drawn HO.out.dn.sc).mono ?_
    rintro e x9 ⟨zm, rfl, hm0, hm1, s, d⟩
    have H9 := hide (HO.out.draw s d)
    clear s d
    obtain ⟨⟨u501, cu1⟩, fu1⟩ := H9.out.there 1 (by omega)
    have H10 := hide (H9.out.setA zm (by unfold In64; omega))
    go_wp2_with fail
    exact HQ.out _ _ _ _ _ _ _ _ _ _ _ _ _ _ _ _ _ _ _ _ _ _ _ _ _ _ _ _ _ _ _ _ _ _ _ _ _ _ _ _ _ _ _ _ _ _ _ _ _ _ _ _ _ _ _ _ _ _ _ _ _ _ _ _ _ _ _ _ _ _ _ _ _ _ _ _ _ _ _ _ _ _ _ _ _ _ _ _ _ _ _ _ _ _ _ _ _ _ _ _ _ _ _ _ _ _ _ _ _ _ _ _ _ _ _ _ _ _ _ _ _ _ _ _ _ _ _ _ _ _ _ _ _ _ _ _ _ _ _ _ _ _ _ _ _ _ _ _ _ _ _ _ _ _ _ H10.out
  · skip
    go_wp2_with fail
    refine (target_drawn HO.out.dn.sc D HO.out.nd hne).mono ?_
    rintro e x11 ⟨sq, rfl, hq, s, d⟩
    have H11 := hide (HO.out.draw s d)
    clear s d
    obtain ⟨⟨u506, cu6⟩, fu6⟩ := H11.out.there 6 (by omega)
    have H12 := hide (H11.out.setQ sq hq)
    go_wp2_with fail
    exact HQ.out _ _ _ _ _ _ _ _ _ _ _ _ _ _ _ _ _ _ _ _ _ _ _ _ _ _ _ _ _ _ _ _ _ _ _ _ _ _ _ _ _ _ _ _ _ _ _ _ _ _ _ _ _ _ _ _ _ _ _ _ _ _ _ _ _ _ _ _ _ _ _ _ _ _ _ _ _ _ _ _ _ _ _ _ _ _ _ _ _ _ _ _ _ _ _ _ _ _ _ _ _ _ _ _ _ _ _ _ _ _ _ _ _ _ _ _ _ _ _ _ _ _ _ _ _ _ _ _ _ _ _ _ _ _ _ _ _ _ _ _ _ _ _ _ _ _ _ _ _ _ _ _ _ _ _ H12.out
  · skip
    go_wp2_with fail
    refine (path_drawn HO.out.dn.sc D HO.out.nd).mono ?_
    rintro e x13 ⟨sq, rfl, hq, s, d⟩
    have H13 := hide (HO.out.draw s d)
    clear s d
    obtain ⟨⟨u506, cu6⟩, fu6⟩ := H13.out.there 6 (by omega)
    have H14 := hide (H13.out.setQ sq hq)
    go_wp2_with fail
    exact HQ.out _ _ _ _ _ _ _ _ _ _ _ _ _ _ _ _ _ _ _ _ _ _ _ _ _ _ _ _ _ _ _ _ _ _ _ _ _ _ _ _ _ _ _ _ _ _ _ _ _ _ _ _ _ _ _ _ _ _ _ _ _ _ _ _ _ _ _ _ _ _ _ _ _ _ _ _ _ _ _ _ _ _ _ _ _ _ _ _ _ _ _ _ _ _ _ _ _ _ _ _ _ _ _ _ _ _ _ _ _ _ _ _ _ _ _ _ _ _ _ _ _ _ _ _ _ _ _ _ _ _ _ _ _ _ _ _ _ _ _ _ _ _ _ _ _ _ _ _ _ _ _ _ _ _ _ H14.out
  · skip
    go_wp2_with fail
    exact HQ.out _ _ _ _ _ _ _ _ _ _ _ _ _ _ _ _ _ _ _ _ _ _ _ _ _ _ _ _ _ _ _ _ _ _ _ _ _ _ _ _ _ _ _ _ _ _ _ _ _ _ _ _ _ _ _ _ _ _ _ _ _ _ _ _ _ _ _ _ _ _ _ _ _ _ _ _ _ _ _ _ _ _ _ _ _ _ _ _ _ _ _ _ _ _ _ _ _ _ _ _ _ _ _ _ _ _ _ _ _ _ _ _ _ _ _ _ _ _ _ _ _ _ _ _ _ _ _ _ _ _ _ _ _ _ _ _ _ _ _ _ _ _ _ _ _ _ _ _ _ _ _ _ _ _ _ HO.out
  · skip
    go_wp2_with fail
    exact HQ.out _ _ _ _ _ _ _ _ _ _ _ _ _ _ _ _ _ _ _ _ _ _ _ _ _ _ _ _ _ _ _ _ _ _ _ _ _ _ _ _ _ _ _ _ _ _ _ _ _ _ _ _ _ _ _ _ _ _ _ _ _ _ _ _ _ _ _ _ _ _ _ _ _ _ _ _ _ _ _ _ _ _ _ _ _ _ _ _ _ _ _ _ _ _ _ _ _ _ _ _ _ _ _ _ _ _ _ _ _ _ _ _ _ _ _ _ _ _ _ _ _ _ _ _ _ _ _ _ _ _ _ _ _ _ _ _ _ _ _ _ _ _ _ _ _ _ _ _ _ _ _ _ _ _ _ HO.out
  · skip
    go_wp2_with fail
    refine (path_drawn HO.out.dn.sc D HO.out.nd).mono ?_
    rintro e x15 ⟨sq, rfl, hq, s, d⟩
    have H15 := hide (HO.out.draw s d)
    clear s d
    obtain ⟨⟨u506, cu6⟩, fu6⟩ := H15.out.there 6 (by omega)
    have H16 := hide (H15.out.setQ sq hq)
    go_wp2_with fail
    exact HQ.out _ _ _ _ _ _ _ _ _ _ _ _ _ _ _ _ _ _ _ _ _ _ _ _ _ _ _ _ _ _ _ _ _ _ _ _ _ _ _ _ _ _ _ _ _ _ _ _ _ _ _ _ _ _ _ _ _ _ _ _ _ _ _ _ _ _ _ _ _ _ _ _ _ _ _ _ _ _ _ _ _ _ _ _ _ _ _ _ _ _ _ _ _ _ _ _ _ _ _ _ _ _ _ _ _ _ _ _ _ _ _ _ _ _ _ _ _ _ _ _ _ _ _ _ _ _ _ _ _ _ _ _ _ _ _ _ _ _ _ _ _ _ _ _ _ _ _ _ _ _ _ _ _ _ _ H16.out
  · skip
    go_wp2_with fail
    refine (HO.out.dn.sc.N 3 (by omega) (by omega)).mono ?_
    rintro e x17 ⟨z17, rfl, hza17, hzb17, s, d⟩
    have H17 := hide (HO.out.draw s d)
    clear s d
    obtain ⟨⟨u501, cu1⟩, fu1⟩ := H17.out.there 1 (by omega)
    have H18 := hide (H17.out.setA (z17 * 256) (by unfold In64; omega))
    go_upto_if 62 with (go_at_call 20; refine (H18.out.dn.sc.One 5 (by omega) (by omega)).mono ?_; rintro e x19 ⟨t19, rfl, s, d⟩; have H19 := hide (H18.out.draw s d); clear s d)
    go_cut [] from 8 to 160 (fun wx => OpS w0 W wx b D g cv cs 8)
    case first =>
      cases t19 with
      | true =>
        go_wp2_with fail
        refine (H19.out.dn.sc.N 9000 (by omega) (by omega)).mono ?_
        rintro e x20 ⟨z20, rfl, hza20, hzb20, s, d⟩
        have H20 := hide (H19.out.draw s d)
        clear s d
        obtain ⟨⟨u501, cu1⟩, fu1⟩ := H20.out.there 1 (by omega)
        have H21 := hide (H20.out.setA (z20) (by unfold In64; omega))
        go_wp2_with fail
        go_meet
        exact H21.out
      | false =>
        go_wp2_with fail
        go_meet
        exact H19.out
    case rest =>
    have H22 := hide hcut
    clear hcut
    go_wp2_with fail
    refine (H22.out.dn.sc.N 40 (by omega) (by omega)).mono ?_
    rintro e x23 ⟨z23, rfl, hza23, hzb23, s, d⟩
    have H23 := hide (H22.out.draw s d)
    clear s d
    obtain ⟨nb, hnb⟩ : ∃ nb : Nat, z23 = (nb : Int) := ⟨z23.toNat, by omega⟩
    subst hnb
    go_wp2_with fail
    refine (bytes_drawn H23.out.dn.sc nb (by omega)).mono ?_
    rintro e x24 ⟨vd, zs, rfl, hl, hB, ho, s, d⟩
    obtain ⟨da, dc, rfl⟩ := shape_row ho
    have H24 := hide (H23.out.draw s d)
    have HW := hide (show x24.ownsRow (g + 1) 5 1 (.slice da nb dc) zs.length (zs.map (Value.int .u8)) by rw [hl]; exact own_mono ho H23.out.gle)
    have HL := hide (And.intro (show zs.length ≤ 4097 by omega) hB)
    clear s d ho hl hB
    obtain ⟨⟨u507, cu7⟩, fu7⟩ := H24.out.there 7 (by omega)
    have H25 := hide (H24.out.setD (.slice da nb dc) zs HL.out.1 HL.out.2 HW.out)
    go_upto_if 72 with (go_at_call 20; refine (H25.out.dn.sc.One 3 (by omega) (by omega)).mono ?_; rintro e x26 ⟨t26, rfl, s, d⟩; have H26 := hide (H25.out.draw s d); clear s d)
    go_cut [] from 8 to 160 (fun wx => OpS w0 W wx b D g cv cs 8)
    case first =>
      cases t26 with
      | true =>
        go_wp2_with fail
        refine (block_drawn H26.out.dn.sc).mono ?_
        rintro e x27 ⟨ve, ys, rfl, hl, hB, ho, s, d⟩
        obtain ⟨ea, ec, rfl⟩ := shape_row ho
        have H27 := hide (H26.out.draw s d)
        have HW2 := hide (show x27.ownsRow (g + 1) 5 1 (.slice ea 512 ec) ys.length (ys.map (Value.int .u8)) by rw [hl]; exact own_mono ho H26.out.gle)
        have HL2 := hide (And.intro (show ys.length ≤ 4097 by omega) hB)
        clear s d ho hl hB
        obtain ⟨⟨u507, cu7⟩, fu7⟩ := H27.out.there 7 (by omega)
        have H28 := hide (H27.out.setD (.slice ea 512 ec) ys HL2.out.1 HL2.out.2 HW2.out)
        go_wp2_with fail
        go_meet
        exact H28.out
      | false =>
        go_wp2_with fail
        go_meet
        exact H26.out
    case rest =>
    have H29 := hide hcut
    clear hcut
    go_upto_if 77 with (go_at_call 20; refine (H29.out.dn.sc.One 12 (by omega) (by omega)).mono ?_; rintro e x30 ⟨t30, rfl, s, d⟩; have H30 := hide (H29.out.draw s d); clear s d)
    go_cut [] from 8 to 160 (fun wx => OpS w0 W wx b D g cv cs 8)
    case first =>
      cases t30 with
      | true =>
        go_wp2_with fail
        refine (block_drawn H30.out.dn.sc).mono ?_
        rintro e x31 ⟨v1, ys1, rfl, hl1, hB1, ho, s, d⟩
        have H31 := hide (H30.out.draw s d)
        have O1 := hide (own_mono ho (by have := H30.out.gle; omega : g + 1 ≤ _))
        have L1 := hide (And.intro hl1 hB1)
        clear s d ho hl1 hB1
        go_wp2_with fail
        refine (block_drawn H31.out.dn.sc).mono ?_
        rintro e x32 ⟨v2, ys2, rfl, hl2, hB2, ho, s, d⟩
        have H32 := hide (H31.out.draw s d)
        have O1 := hide (own_drawB O1.out d (by have := H31.out.dn.lt; have := H31.out.g2; omega))
        have O2 := hide (own_mono ho (by have := H31.out.gle; omega : g + 1 ≤ _))
        have L2 := hide (And.intro hl2 hB2)
        clear s d ho hl2 hB2
        go_wp2_with fail
        refine (block_drawn H32.out.dn.sc).mono ?_
        rintro e x33 ⟨v3, ys3, rfl, hl3, hB3, ho, s, d⟩
        have H33 := hide (H32.out.draw s d)
        have O1 := hide (own_drawB O1.out d (by have := H32.out.dn.lt; have := H32.out.g2; omega))
        have O2 := hide (own_drawB O2.out d (by have := H32.out.dn.lt; have := H32.out.g2; omega))
        have O3 := hide (own_mono ho (by have := H32.out.gle; omega : g + 1 ≤ _))
        have L3 := hide (And.intro hl3 hB3)
        clear s d ho hl3 hB3
        obtain ⟨a1, c1, rfl⟩ := shape_row O1.out
        obtain ⟨a2, c2, rfl⟩ := shape_row O2.out
        obtain ⟨a3, c3, rfl⟩ := shape_row O3.out
        have HF := hide (show Below x33.heap.size x33 (x33.alloc (.cells #[.slice a1 512 c1, .slice a2 512 c2, .slice a3 512 c3] 22)) from (Below.refl _ _).alloc (Nat.le_refl _) _)
        have HS := hide (H33.out.fresh HF.out)
        have HJ := hide (join3 x33 a1 a2 a3 c1 c2 c3 ys1 ys2 ys3 L1.out.1 L2.out.1 L3.out.1 O1.out O2.out O3.out)
        go_wp2_with fail
        refine HJ.out.mono ?_
        rintro e xj ⟨vj, rfl, oj, bj⟩
        obtain ⟨ja, jc, rfl⟩ := shape_row oj
        have HT := hide (HS.out.fresh bj)
        have HW3 := hide (show xj.ownsRow (g + 1) 5 1 (.slice ja 1536 jc) (ys1 ++ (ys2 ++ ys3)).length ((ys1 ++ (ys2 ++ ys3)).map (Value.int .u8)) by rw [show (ys1 ++ (ys2 ++ ys3)).length = 1536 by rw [List.length_append, List.length_append, L1.out.1, L2.out.1, L3.out.1]]; exact own_mono oj (by have := H33.out.gle; simp; omega))
        have HL3 := hide (And.intro (show (ys1 ++ (ys2 ++ ys3)).length ≤ 4097 by rw [List.length_append, List.length_append, L1.out.1, L2.out.1, L3.out.1]; omega) (L1.out.2.app (L2.out.2.app L3.out.2)))
        clear oj bj
        obtain ⟨⟨u507, cu7⟩, fu7⟩ := HT.out.there 7 (by omega)
        have H34 := hide (HT.out.setD (.slice ja 1536 jc) _ HL3.out.1 HL3.out.2 HW3.out)
        go_wp2_with fail
        go_meet
        exact H34.out
      | false =>
        go_wp2_with fail
        go_meet
        exact H30.out
    case rest =>
    have H35 := hide hcut
    clear hcut
    go_wp2_with fail
    refine (H35.out.dn.sc.One 30 (by omega) (by omega)).mono ?_
    rintro e x36 ⟨t36, rfl, s, d⟩
    have H36 := hide (H35.out.draw s d)
    clear s d
    cases t36 with
    | true =>
      go_wp2_with fail
      refine (H36.out.dn.sc.N 2000 (by omega) (by omega)).mono ?_
      rintro e x37 ⟨z37, rfl, hza37, hzb37, s, d⟩
      have H37 := hide (H36.out.draw s d)
      clear s d
      obtain ⟨⟨u501, cu1⟩, fu1⟩ := H37.out.there 1 (by omega)
      have H38 := hide (H37.out.setA (71680 + z37) (by unfold In64; omega))
      go_wp2_with fail
      exact HQ.out _ _ _ _ _ _ _ _ _ _ _ _ _ _ _ _ _ _ _ _ _ _ _ _ _ _ _ _ _ _ _ _ _ _ _ _ _ _ _ _ _ _ _ _ _ _ _ _ _ _ _ _ _ _ _ _ _ _ _ _ _ _ _ _ _ _ _ _ _ _ _ _ _ _ _ _ _ _ _ _ _ _ _ _ _ _ _ _ _ _ _ _ _ _ _ _ _ _ _ _ _ _ _ _ _ _ _ _ _ _ _ _ _ _ _ _ _ _ _ _ _ _ _ _ _ _ _ _ _ _ _ _ _ _ _ _ _ _ _ _ _ _ _ _ _ _ _ _ _ _ _ _ _ _ _ H38.out
    | false =>
      go_wp2_with fail
      exact HQ.out _ _ _ _ _ _ _ _ _ _ _ _ _ _ _ _ _ _ _ _ _ _ _ _ _ _ _ _ _ _ _ _ _ _ _ _ _ _ _ _ _ _ _ _ _ _ _ _ _ _ _ _ _ _ _ _ _ _ _ _ _ _ _ _ _ _ _ _ _ _ _ _ _ _ _ _ _ _ _ _ _ _ _ _ _ _ _ _ _ _ _ _ _ _ _ _ _ _ _ _ _ _ _ _ _ _ _ _ _ _ _ _ _ _ _ _ _ _ _ _ _ _ _ _ _ _ _ _ _ _ _ _ _ _ _ _ _ _ _ _ _ _ _ _ _ _ _ _ _ _ _ _ _ _ _ H36.out
  · skip
    go_wp2_with fail
    refine (HO.out.dn.sc.N 1500 (by omega) (by omega)).mono ?_
    rintro e x39 ⟨z39, rfl, hza39, hzb39, s, d⟩
    have H39 := hide (HO.out.draw s d)
    clear s d
    obtain ⟨⟨u501, cu1⟩, fu1⟩ := H39.out.there 1 (by omega)
    have H40 := hide (H39.out.setA (z39) (by unfold In64; omega))
    go_wp2_with fail
    refine (H40.out.dn.sc.One 12 (by omega) (by omega)).mono ?_
    rintro e x41 ⟨t41, rfl, s, d⟩
    have H41 := hide (H40.out.draw s d)
    clear s d
    cases t41 with
    | true =>
      go_wp2_with fail
      refine (H41.out.dn.sc.N 262146 (by omega) (by omega)).mono ?_
      rintro e x42 ⟨z42, rfl, hza42, hzb42, s, d⟩
      have H42 := hide (H41.out.draw s d)
      clear s d
      obtain ⟨⟨u501, cu1⟩, fu1⟩ := H42.out.there 1 (by omega)
      have H43 := hide (H42.out.setA (z42) (by unfold In64; omega))
      go_wp2_with fail
      exact HQ.out _ _ _ _ _ _ _ _ _ _ _ _ _ _ _ _ _ _ _ _ _ _ _ _ _ _ _ _ _ _ _ _ _ _ _ _ _ _ _ _ _ _ _ _ _ _ _ _ _ _ _ _ _ _ _ _ _ _ _ _ _ _ _ _ _ _ _ _ _ _ _ _ _ _ _ _ _ _ _ _ _ _ _ _ _ _ _ _ _ _ _ _ _ _ _ _ _ _ _ _ _ _ _ _ _ _ _ _ _ _ _ _ _ _ _ _ _ _ _ _ _ _ _ _ _ _ _ _ _ _ _ _ _ _ _ _ _ _ _ _ _ _ _ _ _ _ _ _ _ _ _ _ _ _ _ H43.out
    | false =>
      go_wp2_with fail
      exact HQ.out _ _ _ _ _ _ _ _ _ _ _ _ _ _ _ _ _ _ _ _ _ _ _ _ _ _ _ _ _ _ _ _ _ _ _ _ _ _ _ _ _ _ _ _ _ _ _ _ _ _ _ _ _ _ _ _ _ _ _ _ _ _ _ _ _ _ _ _ _ _ _ _ _ _ _ _ _ _ _ _ _ _ _ _ _ _ _ _ _ _ _ _ _ _ _ _ _ _ _ _ _ _ _ _ _ _ _ _ _ _ _ _ _ _ _ _ _ _ _ _ _ _ _ _ _ _ _ _ _ _ _ _ _ _ _ _ _ _ _ _ _ _ _ _ _ _ _ _ _ _ _ _ _ _ _ H41.out
  · skip
    go_wp2_with fail
    refine (mode_drawn HO.out.dn.sc).mono ?_
    rintro e x44 ⟨zm, rfl, hm0, hm1, s, d⟩
    have H44 := hide (HO.out.draw s d)
    clear s d
    obtain ⟨⟨u501, cu1⟩, fu1⟩ := H44.out.there 1 (by omega)
    have H45 := hide (H44.out.setA zm (by unfold In64; omega))
    go_wp2_with fail
    exact HQ.out _ _ _ _ _ _ _ _ _ _ _ _ _ _ _ _ _ _ _ _ _ _ _ _ _ _ _ _ _ _ _ _ _ _ _ _ _ _ _ _ _ _ _ _ _ _ _ _ _ _ _ _ _ _ _ _ _ _ _ _ _ _ _ _ _ _ _ _ _ _ _ _ _ _ _ _ _ _ _ _ _ _ _ _ _ _ _ _ _ _ _ _ _ _ _ _ _ _ _ _ _ _ _ _ _ _ _ _ _ _ _ _ _ _ _ _ _ _ _ _ _ _ _ _ _ _ _ _ _ _ _ _ _ _ _ _ _ _ _ _ _ _ _ _ _ _ _ _ _ _ _ _ _ _ _ H45.out
  · skip
    go_wp2_with fail
    refine (HO.out.dn.sc.N 4 (by omega) (by omega)).mono ?_
    rintro e x46 ⟨z46, rfl, hza46, hzb46, s, d⟩
    have H46 := hide (HO.out.draw s d)
    clear s d
    obtain ⟨⟨u501, cu1⟩, fu1⟩ := H46.out.there 1 (by omega)
    have H47 := hide (H46.out.setA (z46) (by unfold In64; omega))
    go_wp2_with fail
    refine (H47.out.dn.sc.N 3 (by omega) (by omega)).mono ?_
    rintro e x48 ⟨z48, rfl, hza48, hzb48, s, d⟩
    have H48 := hide (H47.out.draw s d)
    clear s d
    obtain ⟨⟨u502, cu2⟩, fu2⟩ := H48.out.there 2 (by omega)
    have H49 := hide (H48.out.setB (z48) (by unfold In64; omega))
    go_wp2_with fail
    exact HQ.out _ _ _ _ _ _ _ _ _ _ _ _ _ _ _ _ _ _ _ _ _ _ _ _ _ _ _ _ _ _ _ _ _ _ _ _ _ _ _ _ _ _ _ _ _ _ _ _ _ _ _ _ _ _ _ _ _ _ _ _ _ _ _ _ _ _ _ _ _ _ _ _ _ _ _ _ _ _ _ _ _ _ _ _ _ _ _ _ _ _ _ _ _ _ _ _ _ _ _ _ _ _ _ _ _ _ _ _ _ _ _ _ _ _ _ _ _ _ _ _ _ _ _ _ _ _ _ _ _ _ _ _ _ _ _ _ _ _ _ _ _ _ _ _ _ _ _ _ _ _ _ _ _ _ _ H49.out
  · skip
    go_wp2_with fail
    refine (HO.out.dn.sc.N 1200 (by omega) (by omega)).mono ?_
    rintro e x50 ⟨z50, rfl, hza50, hzb50, s, d⟩
    have H50 := hide (HO.out.draw s d)
    clear s d
    obtain ⟨⟨u501, cu1⟩, fu1⟩ := H50.out.there 1 (by omega)
    have H51 := hide (H50.out.setA (z50) (by unfold In64; omega))
    go_wp2_with fail
    refine (H51.out.dn.sc.N 700 (by omega) (by omega)).mono ?_
    rintro e x52 ⟨z52, rfl, hza52, hzb52, s, d⟩
    have H52 := hide (H51.out.draw s d)
    clear s d
    obtain ⟨⟨u502, cu2⟩, fu2⟩ := H52.out.there 2 (by omega)
    have H53 := hide (H52.out.setB (z52) (by unfold In64; omega))
    go_wp2_with fail
    refine (H53.out.dn.sc.One 5 (by omega) (by omega)).mono ?_
    rintro e x54 ⟨t54, rfl, s, d⟩
    have H54 := hide (H53.out.draw s d)
    clear s d
    cases t54 with
    | true =>
      go_wp2_with fail
      refine (H54.out.dn.sc.N 2 (by omega) (by omega)).mono ?_
      rintro e x55 ⟨z55, rfl, hza55, hzb55, s, d⟩
      have H55 := hide (H54.out.draw s d)
      clear s d
      obtain ⟨⟨u502, cu2⟩, fu2⟩ := H55.out.there 2 (by omega)
      have H56 := hide (H55.out.setB (4096 + z55) (by unfold In64; omega))
      go_wp2_with fail
      exact HQ.out _ _ _ _ _ _ _ _ _ _ _ _ _ _ _ _ _ _ _ _ _ _ _ _ _ _ _ _ _ _ _ _ _ _ _ _ _ _ _ _ _ _ _ _ _ _ _ _ _ _ _ _ _ _ _ _ _ _ _ _ _ _ _ _ _ _ _ _ _ _ _ _ _ _ _ _ _ _ _ _ _ _ _ _ _ _ _ _ _ _ _ _ _ _ _ _ _ _ _ _ _ _ _ _ _ _ _ _ _ _ _ _ _ _ _ _ _ _ _ _ _ _ _ _ _ _ _ _ _ _ _ _ _ _ _ _ _ _ _ _ _ _ _ _ _ _ _ _ _ _ _ _ _ _ _ H56.out
    | false =>
      go_wp2_with fail
      exact HQ.out _ _ _ _ _ _ _ _ _ _ _ _ _ _ _ _ _ _ _ _ _ _ _ _ _ _ _ _ _ _ _ _ _ _ _ _ _ _ _ _ _ _ _ _ _ _ _ _ _ _ _ _ _ _ _ _ _ _ _ _ _ _ _ _ _ _ _ _ _ _ _ _ _ _ _ _ _ _ _ _ _ _ _ _ _ _ _ _ _ _ _ _ _ _ _ _ _ _ _ _ _ _ _ _ _ _ _ _ _ _ _ _ _ _ _ _ _ _ _ _ _ _ _ _ _ _ _ _ _ _ _ _ _ _ _ _ _ _ _ _ _ _ _ _ _ _ _ _ _ _ _ _ _ _ _ H54.out
  · skip
    go_wp2_with fail
    exact HQ.out _ _ _ _ _ _ _ _ _ _ _ _ _ _ _ _ _ _ _ _ _ _ _ _ _ _ _ _ _ _ _ _ _ _ _ _ _ _ _ _ _ _ _ _ _ _ _ _ _ _ _ _ _ _ _ _ _ _ _ _ _ _ _ _ _ _ _ _ _ _ _ _ _ _ _ _ _ _ _ _ _ _ _ _ _ _ _ _ _ _ _ _ _ _ _ _ _ _ _ _ _ _ _ _ _ _ _ _ _ _ _ _ _ _ _ _ _ _ _ _ _ _ _ _ _ _ _ _ _ _ _ _ _ _ _ _ _ _ _ _ _ _ _ _ _ _ _ _ _ _ _ _ _ _ _ HO.out
  · skip
    go_wp2_with fail
    exact HQ.out _ _ _ _ _ _ _ _ _ _ _ _ _ _ _ _ _ _ _ _ _ _ _ _ _ _ _ _ _ _ _ _ _ _ _ _ _ _ _ _ _ _ _ _ _ _ _ _ _ _ _ _ _ _ _ _ _ _ _ _ _ _ _ _ _ _ _ _ _ _ _ _ _ _ _ _ _ _ _ _ _ _ _ _ _ _ _ _ _ _ _ _ _ _ _ _ _ _ _ _ _ _ _ _ _ _ _ _ _ _ _ _ _ _ _ _ _ _ _ _ _ _ _ _ _ _ _ _ _ _ _ _ _ _ _ _ _ _ _ _ _ _ _ _ _ _ _ _ _ _ _ _ _ _ _ HO.out
  · skip
    go_wp2_with fail
    exact HQ.out _ _ _ _ _ _ _ _ _ _ _ _ _ _ _ _ _ _ _ _ _ _ _ _ _ _ _ _ _ _ _ _ _ _ _ _ _ _ _ _ _ _ _ _ _ _ _ _ _ _ _ _ _ _ _ _ _ _ _ _ _ _ _ _ _ _ _ _ _ _ _ _ _ _ _ _ _ _ _ _ _ _ _ _ _ _ _ _ _ _ _ _ _ _ _ _ _ _ _ _ _ _ _ _ _ _ _ _ _ _ _ _ _ _ _ _ _ _ _ _ _ _ _ _ _ _ _ _ _ _ _ _ _ _ _ _ _ _ _ _ _ _ _ _ _ _ _ _ _ _ _ _ _ _ _ HO.out
  · skip
    go_wp2_with fail
    exact HQ.out _ _ _ _ _ _ _ _ _ _ _ _ _ _ _ _ _ _ _ _ _ _ _ _ _ _ _ _ _ _ _ _ _ _ _ _ _ _ _ _ _ _ _ _ _ _ _ _ _ _ _ _ _ _ _ _ _ _ _ _ _ _ _ _ _ _ _ _ _ _ _ _ _ _ _ _ _ _ _ _ _ _ _ _ _ _ _ _ _ _ _ _ _ _ _ _ _ _ _ _ _ _ _ _ _ _ _ _ _ _ _ _ _ _ _ _ _ _ _ _ _ _ _ _ _ _ _ _ _ _ _ _ _ _ _ _ _ _ _ _ _ _ _ _ _ _ _ _ _ _ _ _ _ _ _ HO.out
  · skip
    go_wp2_with fail
    refine (HO.out.dn.sc.N 3 (by omega) (by omega)).mono ?_
    rintro e x57 ⟨z57, rfl, hza57, hzb57, s, d⟩
    have H57 := hide (HO.out.draw s d)
    clear s d
    obtain ⟨⟨u501, cu1⟩, fu1⟩ := H57.out.there 1 (by omega)
    have H58 := hide (H57.out.setA (z57 * 300) (by unfold In64; omega))
    go_wp2_with fail
    refine (H58.out.dn.sc.N 2 (by omega) (by omega)).mono ?_
    rintro e x59 ⟨z59, rfl, hza59, hzb59, s, d⟩
    have H59 := hide (H58.out.draw s d)
    clear s d
    obtain ⟨⟨u502, cu2⟩, fu2⟩ := H59.out.there 2 (by omega)
    have H60 := hide (H59.out.setB (z59) (by unfold In64; omega))
    go_wp2_with fail
    exact HQ.out _ _ _ _ _ _ _ _ _ _ _ _ _ _ _ _ _ _ _ _ _ _ _ _ _ _ _ _ _ _ _ _ _ _ _ _ _ _ _ _ _ _ _ _ _ _ _ _ _ _ _ _ _ _ _ _ _ _ _ _ _ _ _ _ _ _ _ _ _ _ _ _ _ _ _ _ _ _ _ _ _ _ _ _ _ _ _ _ _ _ _ _ _ _ _ _ _ _ _ _ _ _ _ _ _ _ _ _ _ _ _ _ _ _ _ _ _ _ _ _ _ _ _ _ _ _ _ _ _ _ _ _ _ _ _ _ _ _ _ _ _ _ _ _ _ _ _ _ _ _ _ _ _ _ _ H60.out
end Go.Proofs.YtohmjfagbhnieaaGreatDoor
