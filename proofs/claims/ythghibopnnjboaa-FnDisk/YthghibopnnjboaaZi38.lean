/- The program: one reading, one writing. -/
import Derived.Test.YthghibopnnjboaaZi37
namespace Go.Proofs.Ythghibopnnjboaa
set_option linter.unusedVariables false
set_option linter.unusedSimpArgs false
open Go.RowKit

/-- What Reading answers. -/
def readR (m : Nat) (A : Int) (E : List Int) : Int × List Int := if 0 ≤ A ∧ A < m then (0, (E.drop (A.toNat * 512)).take 512) else (19, [])
/-- The operation in its box, the answer's cell, behind what was there. -/
structure BoxA (W wx : World) (k A : Int) (vd : Value) : Prop where
  box : Blk wx W.heap.size #[.int .i64 k, .int .i64 A, vd] 30
  ans : Blk wx (W.heap.size + 1) #[.int .i64 0, .slice none 0 0] 55
  low : Below W.heap.size W wx
theorem boxA_start (W : World) (k A : Int) (vd : Value) : BoxA W ((W.alloc (.cells #[.int .i64 k, .int .i64 A, vd] 30)).alloc (.cells #[.int .i64 0, .slice none 0 0] 55)) k A vd := by
  have b1 : Below W.heap.size W (W.alloc (.cells #[.int .i64 k, .int .i64 A, vd] 30)) := (Below.refl _ _).alloc (Nat.le_refl _) _
  have b2 : Below W.heap.size W ((W.alloc (.cells #[.int .i64 k, .int .i64 A, vd] 30)).alloc (.cells #[.int .i64 0, .slice none 0 0] 55)) := b1.alloc b1.size _
  have k2 := Blk.new (W.alloc (.cells #[.int .i64 k, .int .i64 A, vd] 30)) #[.int .i64 0, .slice none 0 0] 55
  rw [World.size_alloc] at k2
  exact ⟨(Blk.new W _ _).alloc _, k2, b2⟩
section
variable {W : World} {base d : Nat} {vf ve vc : Value} {n : Nat} {F E : List Int} {C : List (Nat × List Int)} {fuse : Int} {off : Bool}
set_option maxRecDepth 100000 in
set_option maxHeartbeats 2000000 in
theorem readC_any (h : Dev W base d vf ve vc n F E C fuse off) (m : Nat) (hm : n = 4 * m) (k A : Int) (vd : Value) (hv : ∃ a l c, vd = .slice a l c) :
    Calls Try.prog 45 #[.pointer (some ⟨d, 0, none⟩), .agg #[.int .i64 k, .int .i64 A, vd]] W fun e w' => ∃ va, e = .returned (.agg #[.int .i64 (readR m A E).1, va]) ∧ w'.ownsRow W.heap.size 5 1 va (readR m A E).2.length ((readR m A E).2.map (Value.int .u8)) ∧ Below W.heap.size W w' := by
  obtain ⟨da, dl, dc, rfl⟩ := hv
  have HS := hide (boxA_start W k A (.slice da dl dc))
  obtain ⟨W2, hW2⟩ : ∃ W2, W2 = (W.alloc (.cells #[.int .i64 k, .int .i64 A, .slice da dl dc] 30)).alloc (.cells #[.int .i64 0, .slice none 0 0] 55) := ⟨_, rfl⟩
  rw [← hW2] at HS
  have HW2 := hide hW2
  have V2 := hide (h.below HS.out.low)
  have b1 := (HS.out.box.cell 1).trans (show _ = some (.int .i64 A) from rfl)
  have hE := h.lens.2
  clear h hW2
  by_cases hA : 0 ≤ A ∧ A < m
  · obtain ⟨a, rfl⟩ : ∃ a : Nat, A = (a : Int) := ⟨A.toNat, by omega⟩
    have hR : readR m (a : Int) E = (0, (E.drop (a * 512)).take 512) := by unfold readR; rw [if_pos hA, Int.toNat_natCast]
    rw [hR]
    have HB := hide (hasBlock_any V2.out m hm (a : Int))
    have e1 : decide (0 ≤ (a : Int) ∧ (a : Int) < m) = true := by simp [hA]
    rw [e1] at HB
    have HRd := hide (readDev_any V2.out a (by omega))
    have Hl := hide (show ((E.drop (a * 512)).take 512).length = 512 by rw [List.length_take, List.length_drop, hE]; omega)
    clear hR e1 hE
    go_enter Try.func45, Try.ntmps45
    go_upto_region 1 with fail
    rw [← HW2.out]
    go_wp2_with fail
    refine HB.out.mono ?_
    rintro e w1 ⟨rfl, rfl⟩
    go_wp2_with fail
    refine HRd.out.mono ?_
    rintro e w3 ⟨v3, rfl, o3, l3⟩
    obtain ⟨a3, c3, rfl⟩ := shape_rowK o3
    have K3 := hide (HS.out.ans.below l3 HS.out.ans.lt)
    have kp : KpY (fun t => t = 55) w3 (w3.setRow (W.heap.size + 1) #[.int .i64 0, .slice a3 512 c3]) := (KpY.refl _ _).setRow K3.out rfl
    have H4 := hide (show (w3.setRow (W.heap.size + 1) #[.int .i64 0, .slice a3 512 c3]).ownsRow W.heap.size 5 1 (.slice a3 512 c3) ((E.drop (a * 512)).take 512).length (((E.drop (a * 512)).take 512).map (Value.int .u8)) ∧ Below W.heap.size W (w3.setRow (W.heap.size + 1) #[.int .i64 0, .slice a3 512 c3]) from ⟨by rw [Hl.out]; exact kp.own (own_mono o3 HS.out.low.size) (by decide), below_setRow (HS.out.low.trans (l3.mono HS.out.low.size)) (by omega) _⟩)
    clear o3 l3 kp
    go_wp2_with (first | (refine wpList_store_row rfl 55 _ _ rfl (W.heap.size + 1) #[.int .i64 (0), .slice a3 512 c3] rfl rfl 55 _ K3.out infoA2 rfl (oneA _ _ rfl rfl) ?_) | fail)
    refine bodyPost_ret (v := .agg #[.int .i64 0, .slice a3 512 c3]) ?_ rfl ⟨_, rfl, H4.out.1, H4.out.2⟩
    exact results_cell_row rfl _ _ (W.heap.size + 1) 55 #[.int .i64 (0), .slice a3 512 c3] (0, 0) _ rfl (K3.out.row _) Try.underlying55 rfl infoA2
  · have hR : readR m A E = (19, []) := by unfold readR; rw [if_neg hA]
    rw [hR]
    have HB := hide (hasBlock_any V2.out m hm A)
    have e1 : decide (0 ≤ A ∧ A < m) = false := by simp [hA]
    rw [e1] at HB
    clear hR e1 hE hA
    go_enter Try.func45, Try.ntmps45
    go_upto_region 1 with fail
    rw [← HW2.out]
    go_wp2_with fail
    refine HB.out.mono ?_
    rintro e w1 ⟨rfl, rfl⟩
    go_wp2_with (first | (refine wpList_store_row rfl 55 _ _ rfl (W.heap.size + 1) #[.int .i64 (19), .slice none 0 0] rfl rfl 55 _ HS.out.ans infoA2 rfl (oneA _ _ rfl rfl) ?_) | fail)
    refine bodyPost_ret (v := .agg #[.int .i64 (19), .slice none 0 0]) ?_ rfl ⟨_, rfl, World.ownsRow_nil _ _ _ _, below_setRow HS.out.low (by omega) _⟩
    exact results_cell_row rfl _ _ (W.heap.size + 1) 55 #[.int .i64 (19), .slice none 0 0] (0, 0) _ rfl (HS.out.ans.row _) Try.underlying55 rfl infoA2
end
/-- What Writing leaves, and how it ends. -/
def CwPost (W : World) (base d : Nat) (vf ve : Value) (n : Nat) (r : DS × Int × List Int) (e : Ending) (w' : World) : Prop :=
  ∃ vc C, (e = .returned (.agg #[.int .i64 r.2.1, .slice none 0 0]) ∨ (r.2.1 = 20 ∧ e = .panicked [{ v := powerV, recovered := false }])) ∧ Dev w' base d vf ve vc n r.1.F (mkW r.1.F (byC C)) C r.1.fu r.1.off ∧ byC C = r.1.C ∧ Below base W w' ∧ KpY TyP W w'
theorem Dev.rowed {W wx : World} {base d : Nat} {vf ve vc : Value} {n : Nat} {F E : List Int} {C : List (Nat × List Int)} {fuse : Int} {off : Bool} {g : Nat} {X Y : Array Value} (h : Dev wx base d vf ve vc n F E C fuse off) (hB : Blk wx g X 55) (hl : Below base W wx) (hk : KpY TyP W wx) (hb : base ≤ g) (hg : W.heap.size ≤ g) : Dev (wx.setRow g Y) base d vf ve vc n F E C fuse off ∧ Below base W (wx.setRow g Y) ∧ KpY TyP W (wx.setRow g Y) :=
  ⟨h.kpy ((KpY.refl (fun t => t = 55) _).setRow hB rfl) (by decide) (by decide) (by decide), below_setRow hl hb _, hk.freshK (setRow_grown _ _ _) hg hl.size⟩
set_option maxRecDepth 100000 in
set_option maxHeartbeats 4000000 in
theorem writeC_any {W : World} {base d : Nat} {vf ve vc : Value} {n : Nat} {s : DS} {C : List (Nat × List Int)} (h : Dev W base d vf ve vc n s.F (mkW s.F (byC C)) C s.fu s.off) (hby : byC C = s.C) (hd : base ≤ d) (m : Nat) (hm : n = 4 * m) (hC : C.length + 4 ≤ 100000) (hfu : s.fu < 9223372036854775808) (ho : s.off = false) (A : Int) (vd : Value) (D : List Int) (hD : Rd .u8 W vd D) :
    Calls Try.prog 46 #[.pointer (some ⟨d, 0, none⟩), .agg #[.int .i64 2, .int .i64 A, vd]] W (CwPost W base d vf ve n (doS m 2 A D s)) := by
  have hbW : base ≤ W.heap.size := by have := h.blk.lt; omega
  obtain ⟨da, dc, rfl⟩ : ∃ a cap, vd = .slice a D.length cap := by obtain ⟨a, cap, e, _⟩ := hD; exact ⟨a, cap, e⟩
  have hdl : D.length ≤ 9223372036854775807 := by have := hD.len; unfold maxLen at this; omega
  obtain ⟨DL, hDL⟩ : ∃ DL, DL = D.length := ⟨_, rfl⟩
  rw [← hDL] at hdl ⊢
  have HS := hide (boxA_start W 2 A (.slice da DL dc))
  obtain ⟨W2, hW2⟩ : ∃ W2, W2 = (W.alloc (.cells #[.int .i64 2, .int .i64 A, .slice da DL dc] 30)).alloc (.cells #[.int .i64 0, .slice none 0 0] 55) := ⟨_, rfl⟩
  rw [← hW2] at HS
  have HW2 := hide hW2
  have V2 := hide (h.below HS.out.low)
  have b1 := (HS.out.box.cell 1).trans (show _ = some (.int .i64 A) from rfl)
  have b2 := (HS.out.box.cell 2).trans (show _ = some (.slice da DL dc) from rfl)
  have HD := hide (show Rd .u8 W2 (.slice da DL dc) D by rw [hDL]; exact hD.below HS.out.low)
  have HDL := hide hDL
  have HBy := hide hby
  have hS : doS m 2 A D s = (if 0 ≤ A ∧ A < m then (if D.length = 512 then (⟨s.F, wrC s.C A.toNat D (maJ s.fu), fuJ s.fu (maJ s.fu), ofJ s.off s.fu⟩, cdJ s.fu, []) else (s, 7, [])) else (s, 19, [])) := by
    unfold doS
    rw [if_neg (by decide), if_neg (by decide), if_neg (by rw [ho]; decide), if_neg (by decide), if_pos rfl]
  rw [hS]
  have HM := hide hm
  have HO := hide ho
  clear h hW2 hD hDL hby hS hm ho
  by_cases hA : 0 ≤ A ∧ A < m
  · rw [if_pos hA]
    obtain ⟨a, rfl⟩ : ∃ a : Nat, A = (a : Int) := ⟨A.toNat, by omega⟩
    rw [Int.toNat_natCast]
    have HB := hide (hasBlock_any V2.out m HM.out (a : Int))
    have e1 : decide (0 ≤ (a : Int) ∧ (a : Int) < m) = true := by simp [hA]
    rw [e1] at HB
    have hBn : a * 4 + 4 ≤ n := by have := HM.out; omega
    clear e1
    by_cases hl : D.length = 512
    · rw [if_pos hl]
      have hl2 := hide hl
      have hD5 : DL = 512 := by rw [HDL.out]; exact hl
      subst hD5
      clear hl
      go_enter Try.func46, Try.ntmps46
      go_upto_region 1 with fail
      rw [← HW2.out]
      go_wp2_with fail
      refine HB.out.mono ?_
      rintro e w1 ⟨rfl, rfl⟩
      go_wp2_with fail
      refine (writeP_any V2.out hd a hBn (.slice da 512 dc) D HD.out hl2.out hC hfu).mono ?_
      rintro e w3 ⟨vc3, hend, v3, l3, y3⟩
      have hby3 : byC (wrS C a D (maJ s.fu)) = wrC s.C a D (maJ s.fu) := by rw [byC_wrS, HBy.out]
      have L3 := hide (show Below base W w3 from (HS.out.low.mono hbW).trans l3)
      have Y3 := hide (show KpY TyP W w3 from ((KpY.refl _ _).below HS.out.low).trans y3)
      rcases hend with ⟨hma, rfl⟩ | ⟨hma, rfl⟩
      · have K3 := hide (y3.blk HS.out.ans (by unfold TyP; decide))
        have hcd : cdJ s.fu = 0 := by unfold cdJ; rw [if_pos hma]
        have HE := hide (v3.rowed (Y := #[.int .i64 0, .slice none 0 0]) K3.out L3.out Y3.out (by omega) (by omega))
        have HP := hide (show CwPost W base d vf ve n (⟨s.F, wrC s.C a D (maJ s.fu), fuJ s.fu (maJ s.fu), ofJ s.off s.fu⟩, cdJ s.fu, []) (.returned (.agg #[.int .i64 0, .slice none 0 0])) (w3.setRow (W.heap.size + 1) #[.int .i64 0, .slice none 0 0]) from ⟨vc3, wrS C a D (maJ s.fu), .inl (by rw [hcd]), HE.out.1, hby3, HE.out.2.1, HE.out.2.2⟩)
        clear v3 l3 y3 hby3 hma hcd
        go_wp2_with (first | (refine wpList_store_row rfl 55 _ _ rfl (W.heap.size + 1) #[.int .i64 (0), .slice none 0 0] rfl rfl 55 _ K3.out infoA2 rfl (oneA _ _ rfl rfl) ?_) | fail)
        refine bodyPost_ret (v := .agg #[.int .i64 (0), .slice none 0 0]) ?_ rfl HP.out
        exact results_cell_row rfl _ _ (W.heap.size + 1) 55 #[.int .i64 (0), .slice none 0 0] (0, 0) _ rfl (K3.out.row _) Try.underlying55 rfl infoA2
      · have hcd : cdJ s.fu = 20 := by unfold cdJ; rw [if_neg hma]
        have HP := hide (show CwPost W base d vf ve n (⟨s.F, wrC s.C a D (maJ s.fu), fuJ s.fu (maJ s.fu), ofJ s.off s.fu⟩, cdJ s.fu, []) (.panicked [{ v := powerV, recovered := false }]) w3 from ⟨vc3, wrS C a D (maJ s.fu), .inr ⟨hcd, rfl⟩, v3, hby3, L3.out, Y3.out⟩)
        clear v3 l3 y3 hby3 hma hcd
        go_wp2
        exact ⟨rfl, HP.out⟩
    · rw [if_neg hl]
      have qL : ¬ (DL = 512) := by rw [HDL.out]; exact hl
      have qI : ¬ ((DL : Int) = 512) := by omega
      have HE := hide (V2.out.rowed (Y := #[.int .i64 7, .slice none 0 0]) HS.out.ans (HS.out.low.mono hbW) ((KpY.refl _ _).below HS.out.low) (by omega) (by omega))
      have HP := hide (show CwPost W base d vf ve n (s, 7, []) (.returned (.agg #[.int .i64 7, .slice none 0 0])) (W2.setRow (W.heap.size + 1) #[.int .i64 7, .slice none 0 0]) from ⟨_, C, .inl rfl, HE.out.1, HBy.out, HE.out.2.1, HE.out.2.2⟩)
      clear HE
      go_enter Try.func46, Try.ntmps46
      go_upto_region 1 with fail
      rw [← HW2.out]
      go_wp2_with fail
      refine HB.out.mono ?_
      rintro e w1 ⟨rfl, rfl⟩
      go_wp2_with (first | (refine wpList_store_row rfl 55 _ _ rfl (W.heap.size + 1) #[.int .i64 (7), .slice none 0 0] rfl rfl 55 _ HS.out.ans infoA2 rfl (oneA _ _ rfl rfl) ?_) | fail)
      refine bodyPost_ret (v := .agg #[.int .i64 (7), .slice none 0 0]) ?_ rfl HP.out
      exact results_cell_row rfl _ _ (W.heap.size + 1) 55 #[.int .i64 (7), .slice none 0 0] (0, 0) _ rfl (HS.out.ans.row _) Try.underlying55 rfl infoA2
  · rw [if_neg hA]
    have HB := hide (hasBlock_any V2.out m HM.out A)
    have e1 : decide (0 ≤ A ∧ A < m) = false := by simp [hA]
    rw [e1] at HB
    have HE := hide (V2.out.rowed (Y := #[.int .i64 19, .slice none 0 0]) HS.out.ans (HS.out.low.mono hbW) ((KpY.refl _ _).below HS.out.low) (by omega) (by omega))
    have HP := hide (show CwPost W base d vf ve n (s, 19, []) (.returned (.agg #[.int .i64 19, .slice none 0 0])) (W2.setRow (W.heap.size + 1) #[.int .i64 19, .slice none 0 0]) from ⟨_, C, .inl rfl, HE.out.1, HBy.out, HE.out.2.1, HE.out.2.2⟩)
    clear HE e1 hA
    go_enter Try.func46, Try.ntmps46
    go_upto_region 1 with fail
    rw [← HW2.out]
    go_wp2_with fail
    refine HB.out.mono ?_
    rintro e w1 ⟨rfl, rfl⟩
    go_wp2_with (first | (refine wpList_store_row rfl 55 _ _ rfl (W.heap.size + 1) #[.int .i64 (19), .slice none 0 0] rfl rfl 55 _ HS.out.ans infoA2 rfl (oneA _ _ rfl rfl) ?_) | fail)
    refine bodyPost_ret (v := .agg #[.int .i64 (19), .slice none 0 0]) ?_ rfl HP.out
    exact results_cell_row rfl _ _ (W.heap.size + 1) 55 #[.int .i64 (19), .slice none 0 0] (0, 0) _ rfl (HS.out.ans.row _) Try.underlying55 rfl infoA2
end Go.Proofs.Ythghibopnnjboaa
