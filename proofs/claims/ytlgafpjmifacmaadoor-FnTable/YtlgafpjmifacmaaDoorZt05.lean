/- An inode drawn. A region that draws its order, by what each operation's value is to be: one step an operation, whatever the order. -/
import Derived.Test.YtlgafpjmifacmaaDoorZt04
import Derived.Deep.Cut
import Derived.Deep.CutRange
import Derived.Test.YtlgafpjmifacmaaDoorZt01
import Derived.Orders
namespace Go.Proofs.YtlgafpjmifacmaaDoor
set_option linter.unusedVariables false
set_option linter.unusedSimpArgs false
open Go.RowKit

def sndC : Code → Code
  | .seq _ b => b
  | c => c
def fstC : Code → Code
  | .seq a _ => a
  | c => c
noncomputable def tailI : Code := sndC (sndC (sndC (sndC (sndC (Tryd.f43.body.getD .skip)))))
set_option maxRecDepth 100000 in
set_option maxHeartbeats 4000000 in
theorem inode_tail {w0 W wr : World} {b g : Nat} {cv : Value} {cs R : List Int} (hD : Dn w0 W wr b cv cs) (hA : Blk wr W.heap.size (cellsI (List.replicate 24 0)) 44) (hB : Blk wr g (cellsI R) 44) (hL : R.length = 24) (hg : W.heap.size ≤ g) (hg2 : W.heap.size ≠ g) (x1 x4 x5 x6 x7 x8 x9 x10 x11 x12 x13 x14 x15 x16 x17 x18 x19 x20 x21 x22 x23 x24 x25 x26 x27 x28 x29 x30 x31 x32 x33 x34 x35 x36 x37 x38 x39 x40 x41 x42 x43 x44 x45 x46 : Value) (K : Act → World → Prop) (hK : ∀ a w', Code.wp Tryd.prog (sndC tailI) (bodyPost Tryd.prog Tryd.f43 (fun e w' => ∃ R : List Int, R.length = 24 ∧ e = .returned (.agg (cellsI R)) ∧ Sc w0 w' b cv cs ∧ W.grownBy w' (some b))) a w' → K a w') :
    Code.wp Tryd.prog (fstC tailI) (Exit.then K (bodyPost Tryd.prog Tryd.f43 (fun e w' => ∃ R : List Int, R.length = 24 ∧ e = .returned (.agg (cellsI R)) ∧ Sc w0 w' b cv cs ∧ W.grownBy w' (some b)))) ⟨#[.pointer (some ⟨b, 0, none⟩), x1, .pointer (some ⟨W.heap.size, 0, none⟩), .pointer (some ⟨g, 0, none⟩), x4, x5, x6, x7, x8, x9, x10, x11, x12, x13, x14, x15, x16, x17, x18, x19, x20, x21, x22, x23, x24, x25, x26, x27, x28, x29, x30, x31, x32, x33, x34, x35, x36, x37, x38, x39, x40, x41, x42, x43, x44, x45, x46], []⟩ wr := by
  have HK := hide (And.intro hD (And.intro hA hB))
  have HL := hide hL
  have HG := hide hg
  have HG2 := hide hg2
  clear hD hA hB hL hg hg2
  conv => arg 2; whnf
  conv at hK => enter [a, w', 1, 2]; whnf
  go_wp2_with fail
  refine (size_drawn HK.out.1.sc).mono ?_
  rintro e w20 ⟨y, rfl, s2, d2⟩
  have HM := hide (And.intro (HK.out.1.draw s2 d2) (And.intro (HK.out.1.blk HK.out.2.1 d2 (Nat.le_refl _)) (HK.out.1.blk HK.out.2.2 d2 HG.out)))
  clear s2 d2 HK
  go_wp2_with fail
  refine (root_drawn HM.out.1.sc y).mono ?_
  rintro e w21 ⟨Q, hQ, rfl, s2, d2⟩
  have HQ := hide hQ
  have HK := hide (And.intro (HM.out.1.draw s2 d2) (And.intro (HM.out.1.blk HM.out.2.1 d2 (Nat.le_refl _)) (HM.out.1.blk HM.out.2.2 d2 HG.out)))
  clear s2 d2 HM hQ
  have HZQ := hide (show (cellsI Q).size = 15 from by rw [cellsI_size]; exact HQ.out)
  have HN := hide (show Dn w0 W (w21.setCells g 9 (cellsI Q).toList) b cv cs ∧ Blk (w21.setCells g 9 (cellsI Q).toList) W.heap.size (cellsI (List.replicate 24 0)) 44 ∧ Blk (w21.setCells g 9 (cellsI Q).toList) g (cellsI (over (R) 9 Q)) 44 from
    ⟨HK.out.1.own (below_cells HG.out _ 9 (Below.refl _ _)), Blk.cells_other _ 9 HK.out.2.1 (by have := HG2.out; omega), Blk.cells Q 9 HK.out.2.2 (by rw [HQ.out, HL.out]; omega)⟩)
  have HLN := hide (show (over (R) 9 Q).length = 24 by rw [over_len _ _ _ (by rw [HQ.out, HL.out]; omega), HL.out])
  generalize over (R) 9 Q = S at HN HLN
  have HZ := hide (show (cellsI S).size = 24 from by rw [cellsI_size]; exact HLN.out)
  have HB := hide (HN.out.1.own (below_setRow (Below.refl W.heap.size _) (Nat.le_refl W.heap.size) (cellsI S)))
  go_wp2_with (first | (refine wpList_store_mid rfl 42 _ _ rfl g 9 (cellsI Q) rfl rfl (HK.out.2.2.there 9 _ (by rw [HZQ.out, cellsI_size, HL.out]; omega)) (by rw [HZQ.out]; exact info15) (cellsI_one _) ?_) | (refine wpList_load_row rfl 44 _ rfl g rfl 44 (cellsI S) (0, 0) _ HN.out.2.2 Tryd.underlying44 rfl (by rw [HZ.out]; exact info24) ?_) | (refine wpList_store_row rfl 44 _ _ rfl W.heap.size (cellsI S) rfl rfl 44 _ HN.out.2.1 (by rw [HZ.out]; exact info24) (by rw [HZ.out]; rfl) (cellsI_one _) ?_) | fail)
  refine bodyPost_ret (v := .agg (cellsI S)) ?_ rfl ⟨_, HLN.out, rfl, HB.out.sc, HB.out.gb⟩
  exact results_cell_row rfl _ _ W.heap.size 44 (cellsI S) (0, 0) _ rfl (HN.out.2.1.row _) Tryd.underlying44 rfl (by rw [HZ.out]; exact info24)

noncomputable def midI : Code := sndC (sndC (sndC (Tryd.f43.body.getD .skip)))
set_option maxRecDepth 100000 in
set_option maxHeartbeats 4000000 in
theorem inode_mid {w0 W wr : World} {b g : Nat} {cv : Value} {cs R : List Int} (hD : Dn w0 W wr b cv cs) (hA : Blk wr W.heap.size (cellsI (List.replicate 24 0)) 44) (hB : Blk wr g (cellsI R) 44) (hL : R.length = 24) (hg : W.heap.size ≤ g) (hg2 : W.heap.size ≠ g) (x1 x4 x5 x6 x7 x8 x9 x10 x11 x12 x13 x14 x15 x16 x17 x18 x19 x20 x21 x22 x23 x24 x25 x26 x27 x28 x29 x30 x31 x32 x33 x34 x35 x36 x37 x38 x39 x40 x41 x42 x43 x44 x45 x46 : Value) (K5 : Act → World → Prop) (hK5 : ∀ a w', Code.wp Tryd.prog (sndC midI) (bodyPost Tryd.prog Tryd.f43 (fun e w' => ∃ R : List Int, R.length = 24 ∧ e = .returned (.agg (cellsI R)) ∧ Sc w0 w' b cv cs ∧ W.grownBy w' (some b))) a w' → K5 a w') (K4 : Act → World → Prop) (hK4 : ∀ a w', Code.wp Tryd.prog (sndC (fstC midI)) (Exit.then K5 (bodyPost Tryd.prog Tryd.f43 (fun e w' => ∃ R : List Int, R.length = 24 ∧ e = .returned (.agg (cellsI R)) ∧ Sc w0 w' b cv cs ∧ W.grownBy w' (some b)))) a w' → K4 a w') :
    Code.wp Tryd.prog (fstC (fstC midI)) (Exit.then K4 (Exit.then K5 (bodyPost Tryd.prog Tryd.f43 (fun e w' => ∃ R : List Int, R.length = 24 ∧ e = .returned (.agg (cellsI R)) ∧ Sc w0 w' b cv cs ∧ W.grownBy w' (some b))))) ⟨#[.pointer (some ⟨b, 0, none⟩), x1, .pointer (some ⟨W.heap.size, 0, none⟩), .pointer (some ⟨g, 0, none⟩), x4, x5, x6, x7, x8, x9, x10, x11, x12, x13, x14, x15, x16, x17, x18, x19, x20, x21, x22, x23, x24, x25, x26, x27, x28, x29, x30, x31, x32, x33, x34, x35, x36, x37, x38, x39, x40, x41, x42, x43, x44, x45, x46], []⟩ wr := by
  have HK := hide (And.intro hD (And.intro hA hB))
  have HL := hide hL
  have HG := hide hg
  have HG2 := hide hg2
  clear hD hA hB hL hg hg2
  conv => arg 2; whnf
  conv at hK4 => enter [a, w', 1, 2]; whnf
  conv at hK5 => enter [a, w', 1, 2]; whnf
  obtain ⟨k0, c0⟩ := cell_in HK.out.2.2 0 (by rw [HL.out]; omega)
  have hz0 : (k0 == 2) = false ∨ (k0 == 2) = true := by
    cases (k0 == 2) <;> simp
  rcases hz0 with hz0 | hz0
  · go_wp2_with fail
    refine (HK.out.1.sc.One 6 (by omega) (by omega)).mono ?_
    rintro e w10 ⟨t, rfl, s2, d2⟩
    have HM := hide (And.intro (HK.out.1.draw s2 d2) (And.intro (HK.out.1.blk HK.out.2.1 d2 (Nat.le_refl _)) (HK.out.1.blk HK.out.2.2 d2 HG.out)))
    clear s2 d2 HK c0
    have HK := hide HM.out
    clear HM
    cases t with
    | false =>
      go_upto_region 10 with fail
      exact inode_tail HK.out.1 HK.out.2.1 HK.out.2.2 HL.out HG.out HG2.out _ _ _ _ _ _ _ _ _ _ _ _ _ _ _ _ _ _ _ _ _ _ _ _ _ _ _ _ _ _ _ _ _ _ _ _ _ _ _ _ _ _ _ _ _ (by assumption)
    | true =>
      obtain ⟨o1, c1⟩ := cell_in HK.out.2.2 1 (by rw [HL.out]; omega)
      obtain ⟨o3, c3⟩ := cell_in HK.out.2.2 3 (by rw [HL.out]; omega)
      obtain ⟨o6, c6⟩ := cell_in HK.out.2.2 6 (by rw [HL.out]; omega)
      have f1 := HK.out.2.2.frozen 1
      have f3 := HK.out.2.2.frozen 3
      have f6 := HK.out.2.2.frozen 6
      have HJ1 := hide (And.intro (HK.out.1.set (k := 1) HG.out HK.out.2.2 1000) (HK.out.2.1.other ⟨g, 1, none⟩ (.int .i64 1000) HG2.out))
      clear HK
      have HJ2 := hide (And.intro (HJ1.out.1.1.set (k := 3) HG.out HJ1.out.1.2 65535) (HJ1.out.2.other ⟨g, 3, none⟩ (.int .i64 65535) HG2.out))
      clear HJ1
      have HJ3 := hide (And.intro (HJ2.out.1.1.set (k := 6) HG.out HJ2.out.1.2 1099511627776) (HJ2.out.2.other ⟨g, 6, none⟩ (.int .i64 1099511627776) HG2.out))
      clear HJ2
      have HK := hide (And.intro HJ3.out.1.1 (And.intro HJ3.out.2 HJ3.out.1.2))
      clear HJ3
      have HL := hide (show (((R.set 1 1000).set 3 65535).set 6 1099511627776).length = 24 by simp [HL.out])
      generalize ((R.set 1 1000).set 3 65535).set 6 1099511627776 = R at HK HL
      go_upto_region 10 with fail
      exact inode_tail HK.out.1 HK.out.2.1 HK.out.2.2 HL.out HG.out HG2.out _ _ _ _ _ _ _ _ _ _ _ _ _ _ _ _ _ _ _ _ _ _ _ _ _ _ _ _ _ _ _ _ _ _ _ _ _ _ _ _ _ _ _ _ _ (by assumption)
  · go_wp2_with fail
    refine (HK.out.1.sc.N 9 (by omega) (by omega)).mono ?_
    rintro e w10 ⟨zp, rfl, pp, qp, s2, d2⟩
    have HM := hide (And.intro (HK.out.1.draw s2 d2) (And.intro (HK.out.1.blk HK.out.2.1 d2 (Nat.le_refl _)) (HK.out.1.blk HK.out.2.2 d2 HG.out)))
    clear s2 d2 HK c0
    obtain ⟨o5, c5⟩ := cell_in HM.out.2.2 5 (by rw [HL.out]; omega)
    have f5 := HM.out.2.2.frozen 5
    go_wp2_with fail
    have HJ := hide (And.intro (HM.out.1.set (k := 5) HG.out HM.out.2.2 (1 + zp)) (HM.out.2.1.other ⟨g, 5, none⟩ (.int .i64 (1 + zp)) HG2.out))
    clear HM
    have HL := hide (show (R.set 5 (1 + zp)).length = 24 by simp [HL.out])
    generalize R.set 5 (1 + zp) = R at HJ HL
    refine (HJ.out.1.1.sc.One 6 (by omega) (by omega)).mono ?_
    rintro e w11 ⟨t, rfl, s2, d2⟩
    have HK := hide (And.intro (HJ.out.1.1.draw s2 d2) (And.intro (HJ.out.1.1.blk HJ.out.2 d2 (Nat.le_refl _)) (HJ.out.1.1.blk HJ.out.1.2 d2 HG.out)))
    clear s2 d2 HJ c5 f5
    cases t with
    | false =>
      go_upto_region 10 with fail
      exact inode_tail HK.out.1 HK.out.2.1 HK.out.2.2 HL.out HG.out HG2.out _ _ _ _ _ _ _ _ _ _ _ _ _ _ _ _ _ _ _ _ _ _ _ _ _ _ _ _ _ _ _ _ _ _ _ _ _ _ _ _ _ _ _ _ _ (by assumption)
    | true =>
      obtain ⟨o1, c1⟩ := cell_in HK.out.2.2 1 (by rw [HL.out]; omega)
      obtain ⟨o3, c3⟩ := cell_in HK.out.2.2 3 (by rw [HL.out]; omega)
      obtain ⟨o6, c6⟩ := cell_in HK.out.2.2 6 (by rw [HL.out]; omega)
      have f1 := HK.out.2.2.frozen 1
      have f3 := HK.out.2.2.frozen 3
      have f6 := HK.out.2.2.frozen 6
      have HJ1 := hide (And.intro (HK.out.1.set (k := 1) HG.out HK.out.2.2 1000) (HK.out.2.1.other ⟨g, 1, none⟩ (.int .i64 1000) HG2.out))
      clear HK
      have HJ2 := hide (And.intro (HJ1.out.1.1.set (k := 3) HG.out HJ1.out.1.2 65535) (HJ1.out.2.other ⟨g, 3, none⟩ (.int .i64 65535) HG2.out))
      clear HJ1
      have HJ3 := hide (And.intro (HJ2.out.1.1.set (k := 6) HG.out HJ2.out.1.2 1099511627776) (HJ2.out.2.other ⟨g, 6, none⟩ (.int .i64 1099511627776) HG2.out))
      clear HJ2
      have HK := hide (And.intro HJ3.out.1.1 (And.intro HJ3.out.2 HJ3.out.1.2))
      clear HJ3
      have HL := hide (show (((R.set 1 1000).set 3 65535).set 6 1099511627776).length = 24 by simp [HL.out])
      generalize ((R.set 1 1000).set 3 65535).set 6 1099511627776 = R at HK HL
      go_upto_region 10 with fail
      exact inode_tail HK.out.1 HK.out.2.1 HK.out.2.2 HL.out HG.out HG2.out _ _ _ _ _ _ _ _ _ _ _ _ _ _ _ _ _ _ _ _ _ _ _ _ _ _ _ _ _ _ _ _ _ _ _ _ _ _ _ _ _ _ _ _ _ (by assumption)

set_option maxRecDepth 100000 in
set_option maxHeartbeats 4000000 in
theorem inode_drawn {w0 W : World} {b : Nat} {cv : Value} {cs : List Int} (h : Sc w0 W b cv cs) :
    Calls Tryd.prog 43 #[.pointer (some ⟨b, 0, none⟩)] W fun e w' => ∃ R : List Int, R.length = 24 ∧ e = .returned (.agg (cellsI R)) ∧ Sc w0 w' b cv cs ∧ W.grownBy w' (some b) := by
  have HD := hide (Dn.start h)
  have hlt := h.src.lt
  clear h
  go_enter Tryd.func43, Tryd.ntmps43
  go_wp2_with fail
  refine ((HD.out.own ((Below.refl _ _).alloc (Nat.le_refl _) _)).sc.One 8 (by omega) (by omega)).mono ?_
  rintro e w1 ⟨t, rfl, s1, d1⟩
  have H1 := hide (show Dn w0 W w1 b cv cs ∧ Blk w1 W.heap.size (cellsI (List.replicate 24 0)) 44 from
    ⟨(HD.out.own ((Below.refl _ _).alloc (Nat.le_refl _) _)).draw s1 d1, (Blk.new W _ _).drawn d1 (by omega)⟩)
  clear s1 d1 HD
  cases t with
  | true =>
    go_wp2_with (first | (refine wpList_store_row rfl 44 _ _ rfl W.heap.size (cellsI (List.replicate 24 0)) rfl rfl 44 _ H1.out.2 info24 rfl (cellsI_one _) ?_) | fail)
    have HB := hide (H1.out.1.own (below_setRow (Below.refl W.heap.size _) (Nat.le_refl W.heap.size) (cellsI (List.replicate 24 0))))
    refine bodyPost_ret (v := .agg (cellsI (List.replicate 24 0))) ?_ rfl ⟨_, by simp, rfl, HB.out.sc, HB.out.gb⟩
    exact results_cell_row rfl _ _ W.heap.size 44 (cellsI (List.replicate 24 0)) (0, 0) _ rfl (H1.out.2.row _) Tryd.underlying44 rfl info24
  | false =>
    go_wp2_with fail
    refine (H1.out.1.sc.N 3 (by omega) (by omega)).mono ?_
    rintro e w2 ⟨z0, rfl, p0, q0, s2, d2⟩
    have H2 := hide (And.intro (H1.out.1.draw s2 d2) (H1.out.1.blk H1.out.2 d2 (Nat.le_refl _)))
    clear s2 d2 H1
    go_wp2_with fail
    refine (H2.out.1.sc.N 5 (by omega) (by omega)).mono ?_
    rintro e w3 ⟨z1, rfl, p1, q1, s2, d2⟩
    have H3 := hide (And.intro (H2.out.1.draw s2 d2) (H2.out.1.blk H2.out.2 d2 (Nat.le_refl _)))
    clear s2 d2 H2
    go_wp2_with fail
    refine (H3.out.1.sc.N 4096 (by omega) (by omega)).mono ?_
    rintro e w4 ⟨z2, rfl, p2, q2, s2, d2⟩
    have H4 := hide (And.intro (H3.out.1.draw s2 d2) (H3.out.1.blk H3.out.2 d2 (Nat.le_refl _)))
    clear s2 d2 H3
    go_wp2_with fail
    refine (H4.out.1.sc.N 3 (by omega) (by omega)).mono ?_
    rintro e w5 ⟨z3, rfl, p3, q3, s2, d2⟩
    have H5 := hide (And.intro (H4.out.1.draw s2 d2) (H4.out.1.blk H4.out.2 d2 (Nat.le_refl _)))
    clear s2 d2 H4
    go_wp2_with fail
    refine (H5.out.1.sc.N 3 (by omega) (by omega)).mono ?_
    rintro e w6 ⟨z4, rfl, p4, q4, s2, d2⟩
    have H6 := hide (And.intro (H5.out.1.draw s2 d2) (H5.out.1.blk H5.out.2 d2 (Nat.le_refl _)))
    clear s2 d2 H5
    go_wp2_with fail
    refine (H6.out.1.sc.N 50 (by omega) (by omega)).mono ?_
    rintro e w7 ⟨z5, rfl, p5, q5, s2, d2⟩
    have H7 := hide (And.intro (H6.out.1.draw s2 d2) (H6.out.1.blk H6.out.2 d2 (Nat.le_refl _)))
    clear s2 d2 H6
    go_wp2_with fail
    refine (H7.out.1.sc.N 50 (by omega) (by omega)).mono ?_
    rintro e w8 ⟨z6, rfl, p6, q6, s2, d2⟩
    have H8 := hide (And.intro (H7.out.1.draw s2 d2) (H7.out.1.blk H7.out.2 d2 (Nat.le_refl _)))
    clear s2 d2 H7
    go_wp2_with fail
    refine (H8.out.1.sc.N 50 (by omega) (by omega)).mono ?_
    rintro e w9 ⟨z7, rfl, p7, q7, s2, d2⟩
    have H9 := hide (And.intro (H8.out.1.draw s2 d2) (H8.out.1.blk H8.out.2 d2 (Nat.le_refl _)))
    clear s2 d2 H8
    have HG := hide H9.out.1.gb.size
    have HKn := hide (show Blk (w9.alloc (.cells (cellsI (List.replicate 24 0)) 44)) w9.heap.size (cellsI (List.replicate 24 0)) 44 ∧ Below w9.heap.size w9 (w9.alloc (.cells (cellsI (List.replicate 24 0)) 44)) from ⟨Blk.new _ _ _, (Below.refl _ _).alloc (Nat.le_refl _) _⟩)
    go_upto_region 4 with (first | (refine wpList_store_row rfl 44 _ _ rfl w9.heap.size (cellsI [1 + z0, 1 + z1, z2, z3, z4, 0, 1 + z5, 1 + z6, 1 + z7, 0, 0, 0, 0, 0, 0, 0, 0, 0, 0, 0, 0, 0, 0, 0]) rfl rfl 44 (cellsI (List.replicate 24 0)) HKn.out.1 info24 rfl (cellsI_one _) ?_) | fail)
    exact inode_mid (g := w9.heap.size) (R := [1 + z0, 1 + z1, z2, z3, z4, 0, 1 + z5, 1 + z6, 1 + z7, 0, 0, 0, 0, 0, 0, 0, 0, 0, 0, 0, 0, 0, 0, 0]) (H9.out.1.own (below_setRow (HKn.out.2.mono HG.out) HG.out _)) (H9.out.2.below (below_setRow HKn.out.2 (Nat.le_refl _) _) H9.out.2.lt) (HKn.out.1.row _) rfl HG.out (by have := H9.out.2.lt; omega) _ _ _ _ _ _ _ _ _ _ _ _ _ _ _ _ _ _ _ _ _ _ _ _ _ _ _ _ _ _ _ _ _ _ _ _ _ _ _ _ _ _ _ _ _ (by assumption) _ (by assumption)
end Go.Proofs.YtlgafpjmifacmaaDoor

namespace Go.Proofs.YtlgafpjmifacmaaDoor
set_option linter.unusedVariables false
set_option linter.unusedSimpArgs false
open Go.RowKit

/-- What stands in the midst of the region: the frame's size, the slots that no operation writes, what holds of the world, what the values of those that came up are. -/
structure RInv (ops : Array Oper) (fs : List (Nat × Value)) (S : World → Prop) (V : Nat → Value → World → Prop) (m : Nat) (ds : List Deferred) (listed : Array Bool) (a : Act) (w : World) : Prop where
  sz : a.tmps.size = m
  df : a.defers = ds
  held : S w
  vals : ∀ i o d, ops[i]? = some o → listed.getD i false = true → o.dst = some d → V i (a.tmps.getD d undef) w
  fix : ∀ t v, (t, v) ∈ fs → a.tmps.getD t undef = v
  seen : ∀ i o, ops[i]? = some o → listed.getD i false = true → ∃ v, V i v w

theorem getD_put {a : Act} {d t : Nat} {v : Value} (hd : d < a.tmps.size) : (a.put (some d) v).tmps.getD t undef = if t = d then v else a.tmps.getD t undef := by
  simp only [Act.put, Array.getD_eq_getD_getElem?, Array.getElem?_setIfInBounds]
  by_cases h : d = t
  · subst h; simp [hd]
  · simp [h, Ne.symm h]
theorem listed_set {listed : Array Bool} {i j : Nat} (hi : i < listed.size) : (listed.setIfInBounds i true).getD j false = if j = i then true else listed.getD j false := by
  simp only [Array.getD_eq_getD_getElem?, Array.getElem?_setIfInBounds]
  by_cases h : i = j
  · subst h; simp [hi]
  · simp [h, Ne.symm h]
theorem count_set {listed : Array Bool} {i : Nat} (hi : i < listed.size) (h : listed.getD i true = false) : (listed.setIfInBounds i true).toList.count false + 1 = listed.toList.count false := by
  have hl : listed[i] = false := by simpa [hi] using h
  rw [Array.toList_setIfInBounds, List.count_set (by simpa using hi)]
  have hp : 0 < listed.toList.count false := List.count_pos_iff.2 (by rw [← hl]; exact Array.mem_toList_iff.2 (Array.getElem_mem hi))
  simp [hl]
  have : List.count false listed.toList = Array.count false listed := by simp
  omega

theorem ready_nil {ops : Array Oper} {listed : Array Bool} {md : Region.Mode} (hsz : listed.size = ops.size) (hord : ∀ (i : Nat) (o : Oper), ops[i]? = some o → ∀ e ∈ o.after, e.on < i) (h : Region.ready md ops listed = []) : ∀ i, i < ops.size → listed.getD i false = true := by
  intro i
  induction i using Nat.strongRecOn with
  | ind i ih =>
    intro hi
    cases e : listed.getD i false with
    | true => rfl
    | false =>
      exfalso
      have hm : i ∈ Region.ready md ops listed := by
        rw [mem_ready]
        refine ⟨?_, ops[i], Array.getElem?_eq_getElem hi, fun ed he _ => ih ed.on (hord i ops[i] (Array.getElem?_eq_getElem hi) ed he) ?_⟩
        · rw [Array.getD_eq_getD_getElem?, Array.getElem?_eq_getElem (by omega)] at e ⊢
          exact e
        · have := hord i ops[i] (Array.getElem?_eq_getElem hi) ed he
          omega
      rw [h] at hm
      cases hm

theorem wpAny_inv {P : Program} {ops : Array Oper} {Q : Exit → Act → World → Prop} (fs : List (Nat × Value)) (S : World → Prop) (V : Nat → Value → World → Prop) (m : Nat) (ds : List Deferred)
    (hord : ∀ (i : Nat) (o : Oper), ops[i]? = some o → ∀ e ∈ o.after, e.on < i)
    (hdst : ∀ (i j : Nat) (oi oj : Oper) (d : Nat), ops[i]? = some oi → ops[j]? = some oj → oi.dst = some d → oj.dst = some d → i = j)
    (hfix : ∀ (i : Nat) (o : Oper) (d : Nat), ops[i]? = some o → o.dst = some d → d < m ∧ ∀ v, (d, v) ∉ fs)
    (hstep : ∀ (i : Nat) (o : Oper) (listed : Array Bool) (a : Act) (w : World), ops[i]? = some o → (∀ e ∈ o.after, Region.binds .any e = true → listed.getD e.on false = true) → RInv ops fs S V m ds listed a w →
      Region.wanted o (yielded ops a.tmps) = true ∧ o.wp P a w (fun a' w' => ∃ v, a' = a.put o.dst v ∧ V i v w' ∧ S w' ∧ ∀ j u, V j u w → V j u w') Q)
    (hfin : ∀ listed a w, (∀ i, i < ops.size → listed.getD i false = true) → RInv ops fs S V m ds listed a w → Q .normal a w) :
    ∀ (fuel : Nat) (listed : Array Bool) (a : Act) (w : World), listed.size = ops.size → listed.toList.count false ≤ fuel → RInv ops fs S V m ds listed a w → wpAny P .any ops Q fuel listed a w
  | 0, listed, a, w, hsz, hc, hI => by
    have hall : ∀ i, i < ops.size → listed.getD i false = true := by
      intro i hi
      cases e : listed.getD i false with
      | true => rfl
      | false =>
        have : false ∈ listed.toList := by
          rw [Array.getD_eq_getD_getElem?, Array.getElem?_eq_getElem (by omega), Option.getD_some] at e
          rw [← e]; exact Array.mem_toList_iff.2 (Array.getElem_mem (by omega))
        have := List.count_pos_iff.2 this
        omega
    refine ⟨?_, hfin listed a w hall hI⟩
    cases e : Region.ready .any ops listed with
    | nil => rfl
    | cons j l =>
      have hj : j ∈ Region.ready .any ops listed := by rw [e]; simp
      obtain ⟨h0, o, ho, _⟩ := mem_ready.1 hj
      have hlt : j < ops.size := (Array.getElem?_eq_some_iff.1 ho).1
      have h1 := hall j hlt
      rw [Array.getD_eq_getD_getElem?, Array.getElem?_eq_getElem (by omega)] at h0 h1
      simp at h0 h1
      rw [h0] at h1
      cases h1
  | fuel + 1, listed, a, w, hsz, hc, hI => by
    refine ⟨fun h => hfin listed a w (ready_nil hsz hord h) hI, fun i hi => ?_⟩
    obtain ⟨h0, o, ho, hall⟩ := mem_ready.1 hi
    have hlt : i < ops.size := (Array.getElem?_eq_some_iff.1 ho).1
    have hs := hstep i o listed a w ho hall hI
    unfold wpOp
    simp only [ho, hs.1, if_true]
    refine .inl (Oper.wp_mono ?_ hs.2)
    rintro a' w' ⟨v, rfl, hv, hS, hk⟩
    have hcs := count_set (listed := listed) (i := i) (by omega) h0
    refine wpAny_inv fs S V m ds hord hdst hfix hstep hfin fuel _ _ _ (by simpa using hsz) (by omega) ?_
    cases hd : o.dst with
    | none =>
      refine ⟨hI.sz, hI.df, hS, fun j oj d hj hl hjd => ?_, hI.fix, fun j oj hj hl => ?_⟩
      · rw [listed_set (by omega)] at hl
        by_cases e : j = i
        · subst e
          rw [ho] at hj
          cases hj
          rw [hd] at hjd
          cases hjd
        · rw [if_neg e] at hl
          exact hk j _ (hI.vals j oj d hj hl hjd)
      · rw [listed_set (by omega)] at hl
        by_cases e : j = i
        · subst e
          exact ⟨v, hv⟩
        · rw [if_neg e] at hl
          obtain ⟨u, hu⟩ := hI.seen j oj hj hl
          exact ⟨u, hk j u hu⟩
    | some d0 =>
      have hf := hfix i o d0 ho hd
      have hd0 : d0 < a.tmps.size := by rw [hI.sz]; exact hf.1
      refine ⟨by simp [Act.put, hI.sz], by simpa [Act.put] using hI.df, hS, fun j oj d hj hl hjd => ?_, fun t u htu => ?_, fun j oj hj hl => ?_⟩
      · rw [listed_set (by omega)] at hl
        rw [getD_put hd0]
        by_cases e : j = i
        · subst e
          rw [ho] at hj
          cases hj
          rw [hd] at hjd
          cases hjd
          rw [if_pos rfl]
          exact hv
        · rw [if_neg e] at hl
          rw [if_neg (fun h => e (hdst j i oj o d hj ho hjd (by rw [hd, h])))]
          exact hk j _ (hI.vals j oj d hj hl hjd)
      · rw [getD_put hd0, if_neg (fun h : t = d0 => hf.2 u (by rw [← h]; exact htu))]
        exact hI.fix t u htu
      · rw [listed_set (by omega)] at hl
        by_cases e : j = i
        · subst e
          exact ⟨v, hv⟩
        · rw [if_neg e] at hl
          obtain ⟨u, hu⟩ := hI.seen j oj hj hl
          exact ⟨u, hk j u hu⟩

/-- The region's own order, looked at by program. -/
def rchk (ops : Array Oper) (m : Nat) (ks : List Nat) : Bool :=
  (List.range ops.size).all fun i => match ops[i]? with
    | none => true
    | some o => (o.after.toList.all fun e => decide (e.on < i)) && (match o.dst with
      | none => true
      | some d => decide (d < m) && !ks.contains d && (List.range i).all fun j => match ops[j]? with
        | none => true
        | some oj => !(oj.dst == some d))
theorem rchk_at {ops : Array Oper} {m : Nat} {ks : List Nat} (h : rchk ops m ks = true) {i : Nat} {o : Oper} (hi : ops[i]? = some o) :
    (∀ e ∈ o.after, e.on < i) ∧ ∀ d, o.dst = some d → d < m ∧ d ∉ ks ∧ ∀ j oj, j < i → ops[j]? = some oj → oj.dst ≠ some d := by
  have hlt : i < ops.size := (Array.getElem?_eq_some_iff.1 hi).1
  unfold rchk at h
  rw [List.all_eq_true] at h
  have h1 := h i (List.mem_range.2 hlt)
  simp only [hi, Bool.and_eq_true] at h1
  obtain ⟨ha, hb⟩ := h1
  refine ⟨fun e he => ?_, fun d hd => ?_⟩
  · rw [List.all_eq_true] at ha
    exact of_decide_eq_true (ha e (Array.mem_toList_iff.2 he))
  · simp only [hd, Bool.and_eq_true] at hb
    obtain ⟨⟨h2, h3⟩, h4⟩ := hb
    refine ⟨of_decide_eq_true h2, by simpa using h3, fun j oj hj hoj e => ?_⟩
    rw [List.all_eq_true] at h4
    have h5 := h4 j (List.mem_range.2 hj)
    simp only [hoj, e] at h5
    simp at h5
theorem wpAny_invB {P : Program} {ops : Array Oper} {Q : Exit → Act → World → Prop} (fs : List (Nat × Value)) (S : World → Prop) (V : Nat → Value → World → Prop) (m : Nat) (ds : List Deferred)
    (hB : rchk ops m (fs.map (·.1)) = true)
    (hstep : ∀ (i : Nat) (o : Oper) (listed : Array Bool) (a : Act) (w : World), ops[i]? = some o → (∀ e ∈ o.after, Region.binds .any e = true → listed.getD e.on false = true) → RInv ops fs S V m ds listed a w →
      Region.wanted o (yielded ops a.tmps) = true ∧ o.wp P a w (fun a' w' => ∃ v, a' = a.put o.dst v ∧ V i v w' ∧ S w' ∧ ∀ j u, V j u w → V j u w') Q)
    (hfin : ∀ listed a w, (∀ i, i < ops.size → listed.getD i false = true) → RInv ops fs S V m ds listed a w → Q .normal a w)
    (a : Act) (w : World) (hsz : a.tmps.size = m) (hdf : a.defers = ds) (hS : S w) (hf : ∀ t v, (t, v) ∈ fs → a.tmps.getD t undef = v) : wpAny P .any ops Q ops.size (Array.replicate ops.size false) a w := by
  refine wpAny_inv fs S V m ds (fun i o hi => (rchk_at hB hi).1) (fun i j oi oj d hi hj h1 h2 => ?_) (fun i o d hi hd => ?_) hstep hfin _ _ _ _ (by simp) ?_ ⟨hsz, hdf, hS, fun i o d _ hl _ => ?_, hf, fun i o _ hl => ?_⟩
  · rcases Nat.lt_trichotomy i j with h | h | h
    · exact absurd h1 (((rchk_at hB hj).2 d h2).2.2 i oi h hi)
    · exact h
    · exact absurd h2 (((rchk_at hB hi).2 d h1).2.2 j oj h hj)
  · have := (rchk_at hB hi).2 d hd
    exact ⟨this.1, fun v hv => this.2.1 (List.mem_map.2 ⟨_, hv, rfl⟩)⟩
  · rw [Array.toList_replicate, List.count_replicate]; simp
  · simp [Array.getD_eq_getD_getElem?, Array.getElem?_replicate] at hl
    split at hl <;> simp at hl
  · simp [Array.getD_eq_getD_getElem?, Array.getElem?_replicate] at hl
    split at hl <;> simp at hl
/-- The value of one that came up. -/
theorem RInv.at {ops : Array Oper} {fs : List (Nat × Value)} {S : World → Prop} {V : Nat → Value → World → Prop} {m : Nat} {ds : List Deferred} {listed : Array Bool} {a : Act} {w : World} {o oj : Oper} (h : RInv ops fs S V m ds listed a w)
    (hall : ∀ e ∈ o.after, Region.binds .any e = true → listed.getD e.on false = true) (j d : Nat) (hj : ops[j]? = some oj) (hd : oj.dst = some d) (ha : (o.after.toList.any fun e => e.on == j && Region.binds .any e) = true) : V j (a.tmps.getD d undef) w := by
  rw [List.any_eq_true] at ha
  obtain ⟨e, he, h2⟩ := ha
  rw [Bool.and_eq_true] at h2
  have h3 : e.on = j := by simpa using h2.1
  have h4 := hall e (Array.mem_toList_iff.1 he) h2.2
  rw [h3] at h4
  exact h.vals j oj d hj h4 hd
end Go.Proofs.YtlgafpjmifacmaaDoor
