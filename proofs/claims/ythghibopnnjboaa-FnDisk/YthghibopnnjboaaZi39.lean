/- The program: carryOut. -/
import Derived.Test.YthghibopnnjboaaZi38
namespace Go.Proofs.Ythghibopnnjboaa
set_option linter.unusedVariables false
set_option linter.unusedSimpArgs false
open Go.RowKit

/-- What carryOut leaves and answers. -/
def CoPost (W : World) (base d : Nat) (vf ve : Value) (n : Nat) (r : DS × Int × List Int) (e : Ending) (w' : World) : Prop :=
  ∃ vc C va, e = .returned (.agg #[.int .i64 r.2.1, va]) ∧ Dev w' base d vf ve vc n r.1.F (mkW r.1.F (byC C)) C r.1.fu r.1.off ∧ byC C = r.1.C ∧ w'.ownsRow W.heap.size 5 1 va r.2.2.length (r.2.2.map (Value.int .u8)) ∧ Below base W w' ∧ KpY TyP W w'
theorem coEnd {W wx : World} {base d : Nat} {vf ve vc : Value} {n : Nat} {s : DS} {C : List (Nat × List Int)} {X : Array Value} (h : Dev wx base d vf ve vc n s.F (mkW s.F (byC C)) C s.fu s.off) (hby : byC C = s.C) (hB : Blk wx (W.heap.size + 1) X 55) (hl : Below base W wx) (hk : KpY TyP W wx) (hb : base ≤ W.heap.size) (code : Int) (va : Value) (ans : List Int) (ha : wx.ownsRow W.heap.size 5 1 va ans.length (ans.map (Value.int .u8))) :
    CoPost W base d vf ve n (s, code, ans) (.returned (.agg #[.int .i64 code, va])) (wx.setRow (W.heap.size + 1) #[.int .i64 code, va]) := by
  have hr := h.rowed (Y := #[.int .i64 code, va]) hB hl hk (by omega) (by omega)
  exact ⟨vc, C, va, rfl, hr.1, hby, ((KpY.refl (fun t => t = 55) _).setRow hB rfl).own ha (by decide), hr.2.1, hr.2.2⟩
set_option maxRecDepth 100000 in
set_option maxHeartbeats 4000000 in
theorem co_fuse {W : World} {base d : Nat} {vf ve vc : Value} {n : Nat} {s : DS} {C : List (Nat × List Int)} (h : Dev W base d vf ve vc n s.F (mkW s.F (byC C)) C s.fu s.off) (hby : byC C = s.C) (hd : base ≤ d) (m : Nat) (hm : n = 4 * m) (hn : 0 < n) (hC : C.length + 4 ≤ 100000) (hfu : s.fu < 9223372036854775808) (k A : Int) (vd : Value) (D : List Int) (w0 : World) (hD : Rd .u8 w0 vd D) (hw0 : Below w0.heap.size w0 W) (hw1 : w0.heap.size ≤ base) (hbd : ∀ z ∈ D, 0 ≤ z ∧ z < 256) (hk : k = 4) :
    Calls Try.prog 27 #[.pointer (some ⟨d, 0, none⟩), .agg #[.int .i64 k, .int .i64 A, vd]] W (CoPost W base d vf ve n (doS m k A D s)) := by
  subst hk
  have hbW : base ≤ W.heap.size := by have := h.blk.lt; omega
  have hmf : ∀ (fn : Fn) (first cap : Array Value) (w : World), (Instr.makeFunc fn first cap).run Try.prog w = .ok (.func fn first cap) w := fun _ _ _ _ => rfl
  obtain ⟨da, dc, rfl⟩ : ∃ a cap, vd = .slice a D.length cap := by obtain ⟨a, cap, e, _⟩ := hD; exact ⟨a, cap, e⟩
  obtain ⟨DL, hDL⟩ : ∃ DL, DL = D.length := ⟨_, rfl⟩
  rw [show doS m 4 A D s = (⟨s.F, s.C, A, s.off⟩, 0, []) from by unfold doS; rfl]
  rw [← hDL]
  have HS := hide (boxA_start W 4 A (.slice da DL dc))
  obtain ⟨W2, hW2⟩ : ∃ W2, W2 = (W.alloc (.cells #[.int .i64 4, .int .i64 A, .slice da DL dc] 30)).alloc (.cells #[.int .i64 0, .slice none 0 0] 55) := ⟨_, rfl⟩
  rw [← hW2] at HS
  have HW2 := hide hW2
  have V2 := hide (h.below HS.out.low)
  have b0 := (HS.out.box.cell 0).trans (show _ = some (.int .i64 4) from rfl)
  have b1 := (HS.out.box.cell 1).trans (show _ = some (.int .i64 A) from rfl)
  have b2 := (HS.out.box.cell 2).trans (show _ = some (.slice da DL dc) from rfl)
  have d4 := (V2.out.blk.cell 4).trans (show _ = some (.bool s.off) from rfl)
  have HD := hide (show Rd .u8 w0 (.slice da DL dc) D ∧ Below w0.heap.size w0 W2 by rw [hDL]; exact ⟨hD, hw0.trans (HS.out.low.mono (by omega))⟩)
  have HDL := hide hDL
  have HBy := hide hby
  have L2 := hide (show Below base W W2 from HS.out.low.mono hbW)
  have Y2 := hide (show KpY TyP W W2 from (KpY.refl _ _).below HS.out.low)
  have HM := hide hm
  clear h hW2 hD hDL hby hw0 hm
  have y3 := (V2.out.blk.cell 3).trans (show _ = some (.int .i64 s.fu) from rfl)
  have f3 := V2.out.blk.frozen 3
  have K3 := hide (show Blk (W2.setCell ⟨d, 3, none⟩ (.int .i64 A)) (W.heap.size + 1) #[.int .i64 0, .slice none 0 0] 55 from ((KpY.refl (fun t => t = 61) _).setCell V2.out.blk rfl).blk HS.out.ans (by decide))
  have H3 := hide (coEnd (s := ⟨s.F, s.C, A, s.off⟩) (V2.out.setFuse A) HBy.out K3.out (L2.out.setCell (p := ⟨d, 3, none⟩) hd _) (Y2.out.setCell V2.out.blk (.inl rfl)) hbW 0 (.slice none 0 0) [] (World.ownsRow_nil _ _ _ _))
  cases hof : s.off with
  | false =>
    rw [hof] at d4 H3
    go_enter_defers Try.func27, Try.ntmps27
    go_upto_region 1 with fail
    rw [← HW2.out]
    go_wp2_with (first | (refine wpList_store_row rfl 55 _ _ rfl (W.heap.size + 1) #[.int .i64 (0), .slice none 0 0] rfl rfl 55 _ K3.out infoA2 rfl (oneA _ _ rfl rfl) ?_) | fail)
    refine leaves_cons (f := 43) (args := #[.pointer (some ⟨W.heap.size + 1, 0, none⟩)]) (by simp) (by simp [go_sem]) ?_
    refine (catch_idleP ⟨W.heap.size + 1, 0, none⟩ _).mono ?_
    rintro e u' w'' ⟨rfl, rfl, rfl⟩
    exact ⟨_, results_cell_row rfl _ _ (W.heap.size + 1) 55 #[.int .i64 (0), .slice none 0 0] (0, 0) _ rfl (K3.out.row _) Try.underlying55 rfl infoA2, H3.out⟩
  | true =>
    rw [hof] at d4 H3
    go_enter_defers Try.func27, Try.ntmps27
    go_upto_region 1 with fail
    rw [← HW2.out]
    go_wp2_with (first | (refine wpList_store_row rfl 55 _ _ rfl (W.heap.size + 1) #[.int .i64 (0), .slice none 0 0] rfl rfl 55 _ K3.out infoA2 rfl (oneA _ _ rfl rfl) ?_) | fail)
    refine leaves_cons (f := 43) (args := #[.pointer (some ⟨W.heap.size + 1, 0, none⟩)]) (by simp) (by simp [go_sem]) ?_
    refine (catch_idleP ⟨W.heap.size + 1, 0, none⟩ _).mono ?_
    rintro e u' w'' ⟨rfl, rfl, rfl⟩
    exact ⟨_, results_cell_row rfl _ _ (W.heap.size + 1) 55 #[.int .i64 (0), .slice none 0 0] (0, 0) _ rfl (K3.out.row _) Try.underlying55 rfl infoA2, H3.out⟩
set_option maxRecDepth 100000 in
set_option maxHeartbeats 4000000 in
theorem co_off {W : World} {base d : Nat} {vf ve vc : Value} {n : Nat} {s : DS} {C : List (Nat × List Int)} (h : Dev W base d vf ve vc n s.F (mkW s.F (byC C)) C s.fu s.off) (hby : byC C = s.C) (hd : base ≤ d) (m : Nat) (hm : n = 4 * m) (hn : 0 < n) (hC : C.length + 4 ≤ 100000) (hfu : s.fu < 9223372036854775808) (k A : Int) (vd : Value) (D : List Int) (w0 : World) (hD : Rd .u8 w0 vd D) (hw0 : Below w0.heap.size w0 W) (hw1 : w0.heap.size ≤ base) (hbd : ∀ z ∈ D, 0 ≤ z ∧ z < 256) (hk4 : ¬ (k = 4)) (hk5 : ¬ (k = 5)) (ho : s.off = true) :
    Calls Try.prog 27 #[.pointer (some ⟨d, 0, none⟩), .agg #[.int .i64 k, .int .i64 A, vd]] W (CoPost W base d vf ve n (doS m k A D s)) := by
  have hbW : base ≤ W.heap.size := by have := h.blk.lt; omega
  have hmf : ∀ (fn : Fn) (first cap : Array Value) (w : World), (Instr.makeFunc fn first cap).run Try.prog w = .ok (.func fn first cap) w := fun _ _ _ _ => rfl
  obtain ⟨da, dc, rfl⟩ : ∃ a cap, vd = .slice a D.length cap := by obtain ⟨a, cap, e, _⟩ := hD; exact ⟨a, cap, e⟩
  obtain ⟨DL, hDL⟩ : ∃ DL, DL = D.length := ⟨_, rfl⟩
  rw [show doS m k A D s = (s, 20, []) from by unfold doS; rw [if_neg hk4, if_neg hk5, if_pos ho]]
  rw [← hDL]
  have HS := hide (boxA_start W k A (.slice da DL dc))
  obtain ⟨W2, hW2⟩ : ∃ W2, W2 = (W.alloc (.cells #[.int .i64 k, .int .i64 A, .slice da DL dc] 30)).alloc (.cells #[.int .i64 0, .slice none 0 0] 55) := ⟨_, rfl⟩
  rw [← hW2] at HS
  have HW2 := hide hW2
  have V2 := hide (h.below HS.out.low)
  have b0 := (HS.out.box.cell 0).trans (show _ = some (.int .i64 k) from rfl)
  have b1 := (HS.out.box.cell 1).trans (show _ = some (.int .i64 A) from rfl)
  have b2 := (HS.out.box.cell 2).trans (show _ = some (.slice da DL dc) from rfl)
  have d4 := (V2.out.blk.cell 4).trans (show _ = some (.bool s.off) from rfl)
  have HD := hide (show Rd .u8 w0 (.slice da DL dc) D ∧ Below w0.heap.size w0 W2 by rw [hDL]; exact ⟨hD, hw0.trans (HS.out.low.mono (by omega))⟩)
  have HDL := hide hDL
  have HBy := hide hby
  have L2 := hide (show Below base W W2 from HS.out.low.mono hbW)
  have Y2 := hide (show KpY TyP W W2 from (KpY.refl _ _).below HS.out.low)
  have HM := hide hm
  clear h hW2 hD hDL hby hw0 hm
  rw [ho] at d4
  have HO := hide ho
  clear ho
  have q4 : (k != 4) = true := by simp [hk4]
  have q5 : (k != 5) = true := by simp [hk5]
  go_enter_defers Try.func27, Try.ntmps27
  go_upto_region 1 with fail
  rw [← HW2.out]
  go_wp2_with (first | (refine wpList_store_row rfl 55 _ _ rfl (W.heap.size + 1) #[.int .i64 (20), .slice none 0 0] rfl rfl 55 _ HS.out.ans infoA2 rfl (oneA _ _ rfl rfl) ?_) | fail)
  refine leaves_cons (f := 43) (args := #[.pointer (some ⟨W.heap.size + 1, 0, none⟩)]) (by simp) (by simp [go_sem]) ?_
  refine (catch_idleP ⟨W.heap.size + 1, 0, none⟩ _).mono ?_
  rintro e u' w'' ⟨rfl, rfl, rfl⟩
  exact ⟨_, results_cell_row rfl _ _ (W.heap.size + 1) 55 #[.int .i64 (20), .slice none 0 0] (0, 0) _ rfl (HS.out.ans.row _) Try.underlying55 rfl infoA2, coEnd V2.out HBy.out HS.out.ans L2.out Y2.out hbW (20) (.slice none 0 0) [] (World.ownsRow_nil _ _ _ _)⟩
set_option maxRecDepth 100000 in
set_option maxHeartbeats 4000000 in
theorem co_kind {W : World} {base d : Nat} {vf ve vc : Value} {n : Nat} {s : DS} {C : List (Nat × List Int)} (h : Dev W base d vf ve vc n s.F (mkW s.F (byC C)) C s.fu s.off) (hby : byC C = s.C) (hd : base ≤ d) (m : Nat) (hm : n = 4 * m) (hn : 0 < n) (hC : C.length + 4 ≤ 100000) (hfu : s.fu < 9223372036854775808) (k A : Int) (vd : Value) (D : List Int) (w0 : World) (hD : Rd .u8 w0 vd D) (hw0 : Below w0.heap.size w0 W) (hw1 : w0.heap.size ≤ base) (hbd : ∀ z ∈ D, 0 ≤ z ∧ z < 256) (hk4 : ¬ (k = 4)) (hk5 : ¬ (k = 5)) (ho : s.off = false) (hk1 : ¬ (k = 1)) (hk2 : ¬ (k = 2)) (hk3 : ¬ (k = 3)) :
    Calls Try.prog 27 #[.pointer (some ⟨d, 0, none⟩), .agg #[.int .i64 k, .int .i64 A, vd]] W (CoPost W base d vf ve n (doS m k A D s)) := by
  have hbW : base ≤ W.heap.size := by have := h.blk.lt; omega
  have hmf : ∀ (fn : Fn) (first cap : Array Value) (w : World), (Instr.makeFunc fn first cap).run Try.prog w = .ok (.func fn first cap) w := fun _ _ _ _ => rfl
  obtain ⟨da, dc, rfl⟩ : ∃ a cap, vd = .slice a D.length cap := by obtain ⟨a, cap, e, _⟩ := hD; exact ⟨a, cap, e⟩
  obtain ⟨DL, hDL⟩ : ∃ DL, DL = D.length := ⟨_, rfl⟩
  rw [show doS m k A D s = (s, 22, []) from by unfold doS; rw [if_neg hk4, if_neg hk5, if_neg (by rw [ho]; decide), if_neg hk1, if_neg hk2, if_neg hk3]]
  rw [← hDL]
  have HS := hide (boxA_start W k A (.slice da DL dc))
  obtain ⟨W2, hW2⟩ : ∃ W2, W2 = (W.alloc (.cells #[.int .i64 k, .int .i64 A, .slice da DL dc] 30)).alloc (.cells #[.int .i64 0, .slice none 0 0] 55) := ⟨_, rfl⟩
  rw [← hW2] at HS
  have HW2 := hide hW2
  have V2 := hide (h.below HS.out.low)
  have b0 := (HS.out.box.cell 0).trans (show _ = some (.int .i64 k) from rfl)
  have b1 := (HS.out.box.cell 1).trans (show _ = some (.int .i64 A) from rfl)
  have b2 := (HS.out.box.cell 2).trans (show _ = some (.slice da DL dc) from rfl)
  have d4 := (V2.out.blk.cell 4).trans (show _ = some (.bool s.off) from rfl)
  have HD := hide (show Rd .u8 w0 (.slice da DL dc) D ∧ Below w0.heap.size w0 W2 by rw [hDL]; exact ⟨hD, hw0.trans (HS.out.low.mono (by omega))⟩)
  have HDL := hide hDL
  have HBy := hide hby
  have L2 := hide (show Below base W W2 from HS.out.low.mono hbW)
  have Y2 := hide (show KpY TyP W W2 from (KpY.refl _ _).below HS.out.low)
  have HM := hide hm
  clear h hW2 hD hDL hby hw0 hm
  rw [ho] at d4
  have HO := hide ho
  clear ho
  go_enter_defers Try.func27, Try.ntmps27
  go_upto_region 1 with fail
  rw [← HW2.out]
  go_wp2_with (first | (refine wpList_store_row rfl 55 _ _ rfl (W.heap.size + 1) #[.int .i64 (22), .slice none 0 0] rfl rfl 55 _ HS.out.ans infoA2 rfl (oneA _ _ rfl rfl) ?_) | fail)
  refine leaves_cons (f := 43) (args := #[.pointer (some ⟨W.heap.size + 1, 0, none⟩)]) (by simp) (by simp [go_sem]) ?_
  refine (catch_idleP ⟨W.heap.size + 1, 0, none⟩ _).mono ?_
  rintro e u' w'' ⟨rfl, rfl, rfl⟩
  exact ⟨_, results_cell_row rfl _ _ (W.heap.size + 1) 55 #[.int .i64 (22), .slice none 0 0] (0, 0) _ rfl (HS.out.ans.row _) Try.underlying55 rfl infoA2, coEnd V2.out HBy.out HS.out.ans L2.out Y2.out hbW (22) (.slice none 0 0) [] (World.ownsRow_nil _ _ _ _)⟩
set_option maxRecDepth 100000 in
set_option maxHeartbeats 4000000 in
theorem co_read {W : World} {base d : Nat} {vf ve vc : Value} {n : Nat} {s : DS} {C : List (Nat × List Int)} (h : Dev W base d vf ve vc n s.F (mkW s.F (byC C)) C s.fu s.off) (hby : byC C = s.C) (hd : base ≤ d) (m : Nat) (hm : n = 4 * m) (hn : 0 < n) (hC : C.length + 4 ≤ 100000) (hfu : s.fu < 9223372036854775808) (k A : Int) (vd : Value) (D : List Int) (w0 : World) (hD : Rd .u8 w0 vd D) (hw0 : Below w0.heap.size w0 W) (hw1 : w0.heap.size ≤ base) (hbd : ∀ z ∈ D, 0 ≤ z ∧ z < 256) (hk : k = 1) (ho : s.off = false) :
    Calls Try.prog 27 #[.pointer (some ⟨d, 0, none⟩), .agg #[.int .i64 k, .int .i64 A, vd]] W (CoPost W base d vf ve n (doS m k A D s)) := by
  subst hk
  have hbW : base ≤ W.heap.size := by have := h.blk.lt; omega
  have hmf : ∀ (fn : Fn) (first cap : Array Value) (w : World), (Instr.makeFunc fn first cap).run Try.prog w = .ok (.func fn first cap) w := fun _ _ _ _ => rfl
  obtain ⟨da, dc, rfl⟩ : ∃ a cap, vd = .slice a D.length cap := by obtain ⟨a, cap, e, _⟩ := hD; exact ⟨a, cap, e⟩
  obtain ⟨DL, hDL⟩ : ∃ DL, DL = D.length := ⟨_, rfl⟩
  rw [show doS m 1 A D s = (s, (readR m A (mkW s.F (byC C))).1, (readR m A (mkW s.F (byC C))).2) from by unfold doS readR; rw [if_neg (by decide), if_neg (by decide), if_neg (by rw [ho]; decide), if_pos rfl, hby]; split <;> rfl]
  rw [← hDL]
  have HS := hide (boxA_start W 1 A (.slice da DL dc))
  obtain ⟨W2, hW2⟩ : ∃ W2, W2 = (W.alloc (.cells #[.int .i64 1, .int .i64 A, .slice da DL dc] 30)).alloc (.cells #[.int .i64 0, .slice none 0 0] 55) := ⟨_, rfl⟩
  rw [← hW2] at HS
  have HW2 := hide hW2
  have V2 := hide (h.below HS.out.low)
  have b0 := (HS.out.box.cell 0).trans (show _ = some (.int .i64 1) from rfl)
  have b1 := (HS.out.box.cell 1).trans (show _ = some (.int .i64 A) from rfl)
  have b2 := (HS.out.box.cell 2).trans (show _ = some (.slice da DL dc) from rfl)
  have d4 := (V2.out.blk.cell 4).trans (show _ = some (.bool s.off) from rfl)
  have HD := hide (show Rd .u8 w0 (.slice da DL dc) D ∧ Below w0.heap.size w0 W2 by rw [hDL]; exact ⟨hD, hw0.trans (HS.out.low.mono (by omega))⟩)
  have HDL := hide hDL
  have HBy := hide hby
  have L2 := hide (show Below base W W2 from HS.out.low.mono hbW)
  have Y2 := hide (show KpY TyP W W2 from (KpY.refl _ _).below HS.out.low)
  have HM := hide hm
  clear h hW2 hD hDL hby hw0 hm
  rw [ho] at d4
  have HO := hide ho
  clear ho
  have HR := hide (readC_any V2.out m HM.out 1 A (.slice da DL dc) ⟨_, _, _, rfl⟩)
  go_enter_defers Try.func27, Try.ntmps27
  go_upto_region 1 with fail
  rw [← HW2.out]
  go_wp2_with fail
  refine HR.out.mono ?_
  rintro e w3 ⟨va, rfl, o3, l3⟩
  obtain ⟨a3, c3, rfl⟩ := shape_rowK o3
  obtain ⟨rl, hrl⟩ : ∃ rl, rl = (readR m A (mkW s.F (byC C))).2.length := ⟨_, rfl⟩
  obtain ⟨rc, hrc⟩ : ∃ rc, rc = (readR m A (mkW s.F (byC C))).1 := ⟨_, rfl⟩
  have K3 := hide (HS.out.ans.below l3 HS.out.ans.lt)
  have H3 := hide (coEnd (V2.out.below l3) HBy.out K3.out (L2.out.trans (l3.mono (Nat.le_trans hbW HS.out.low.size))) (Y2.out.below l3) hbW (readR m A (mkW s.F (byC C))).1 _ (readR m A (mkW s.F (byC C))).2 (own_mono o3 HS.out.low.size))
  rw [← hrl, ← hrc] at H3
  rw [← hrl, ← hrc]
  have HRl := hide hrl
  have HRc := hide hrc
  clear o3 l3 hrl hrc
  go_wp2_with (first | (refine wpList_store_row rfl 55 _ _ rfl (W.heap.size + 1) #[.int .i64 (rc), .slice a3 rl c3] rfl rfl 55 _ K3.out infoA2 rfl (oneA _ _ rfl rfl) ?_) | fail)
  refine leaves_cons (f := 43) (args := #[.pointer (some ⟨W.heap.size + 1, 0, none⟩)]) (by simp) (by simp [go_sem]) ?_
  refine (catch_idleP ⟨W.heap.size + 1, 0, none⟩ _).mono ?_
  rintro e u' w'' ⟨rfl, rfl, rfl⟩
  refine ⟨_, results_cell_row rfl _ _ (W.heap.size + 1) 55 #[.int .i64 (rc), .slice a3 rl c3] (0, 0) _ rfl (K3.out.row _) Try.underlying55 rfl infoA2, ?_⟩
  rw [← HRc.out]
  exact H3.out
set_option maxRecDepth 100000 in
set_option maxHeartbeats 4000000 in
theorem co_barrier {W : World} {base d : Nat} {vf ve vc : Value} {n : Nat} {s : DS} {C : List (Nat × List Int)} (h : Dev W base d vf ve vc n s.F (mkW s.F (byC C)) C s.fu s.off) (hby : byC C = s.C) (hd : base ≤ d) (m : Nat) (hm : n = 4 * m) (hn : 0 < n) (hC : C.length + 4 ≤ 100000) (hfu : s.fu < 9223372036854775808) (k A : Int) (vd : Value) (D : List Int) (w0 : World) (hD : Rd .u8 w0 vd D) (hw0 : Below w0.heap.size w0 W) (hw1 : w0.heap.size ≤ base) (hbd : ∀ z ∈ D, 0 ≤ z ∧ z < 256) (hk : k = 3) (ho : s.off = false) :
    Calls Try.prog 27 #[.pointer (some ⟨d, 0, none⟩), .agg #[.int .i64 k, .int .i64 A, vd]] W (CoPost W base d vf ve n (doS m k A D s)) := by
  subst hk
  have hbW : base ≤ W.heap.size := by have := h.blk.lt; omega
  have hmf : ∀ (fn : Fn) (first cap : Array Value) (w : World), (Instr.makeFunc fn first cap).run Try.prog w = .ok (.func fn first cap) w := fun _ _ _ _ => rfl
  obtain ⟨da, dc, rfl⟩ : ∃ a cap, vd = .slice a D.length cap := by obtain ⟨a, cap, e, _⟩ := hD; exact ⟨a, cap, e⟩
  obtain ⟨DL, hDL⟩ : ∃ DL, DL = D.length := ⟨_, rfl⟩
  rw [show doS m 3 A D s = (⟨mkW s.F s.C, [], s.fu, s.off⟩, 0, []) from by unfold doS; rw [if_neg (by decide), if_neg (by decide), if_neg (by rw [ho]; decide), if_neg (by decide), if_neg (by decide), if_pos rfl]]
  rw [← hDL]
  have HS := hide (boxA_start W 3 A (.slice da DL dc))
  obtain ⟨W2, hW2⟩ : ∃ W2, W2 = (W.alloc (.cells #[.int .i64 3, .int .i64 A, .slice da DL dc] 30)).alloc (.cells #[.int .i64 0, .slice none 0 0] 55) := ⟨_, rfl⟩
  rw [← hW2] at HS
  have HW2 := hide hW2
  have V2 := hide (h.below HS.out.low)
  have b0 := (HS.out.box.cell 0).trans (show _ = some (.int .i64 3) from rfl)
  have b1 := (HS.out.box.cell 1).trans (show _ = some (.int .i64 A) from rfl)
  have b2 := (HS.out.box.cell 2).trans (show _ = some (.slice da DL dc) from rfl)
  have d4 := (V2.out.blk.cell 4).trans (show _ = some (.bool s.off) from rfl)
  have HD := hide (show Rd .u8 w0 (.slice da DL dc) D ∧ Below w0.heap.size w0 W2 by rw [hDL]; exact ⟨hD, hw0.trans (HS.out.low.mono (by omega))⟩)
  have HDL := hide hDL
  have HBy := hide hby
  have L2 := hide (show Below base W W2 from HS.out.low.mono hbW)
  have Y2 := hide (show KpY TyP W W2 from (KpY.refl _ _).below HS.out.low)
  have HM := hide hm
  clear h hW2 hD hDL hby hw0 hm
  rw [ho] at d4
  have HO := hide ho
  clear ho
  go_enter_defers Try.func27, Try.ntmps27
  go_upto_region 1 with fail
  rw [← HW2.out]
  go_wp2_with fail
  refine (barrierP_any V2.out hd hn (by omega)).mono ?_
  rintro e w3 ⟨rfl, v3, l3, y3⟩
  have K3 := hide (y3.blk HS.out.ans (by unfold TyP; decide))
  have H3 := hide (show CoPost W base d vf ve n (⟨mkW s.F s.C, [], s.fu, s.off⟩, 0, []) (.returned (.agg #[.int .i64 0, .slice none 0 0])) (w3.setRow (W.heap.size + 1) #[.int .i64 0, .slice none 0 0]) from by
    rw [HBy.out] at v3
    exact coEnd (s := ⟨mkW s.F s.C, [], s.fu, s.off⟩) (C := []) v3 rfl K3.out (L2.out.trans l3) (Y2.out.trans y3) hbW 0 (.slice none 0 0) [] (World.ownsRow_nil _ _ _ _))
  clear v3 l3 y3
  go_wp2_with (first | (refine wpList_store_row rfl 55 _ _ rfl (W.heap.size + 1) #[.int .i64 (0), .slice none 0 0] rfl rfl 55 _ K3.out infoA2 rfl (oneA _ _ rfl rfl) ?_) | fail)
  refine leaves_cons (f := 43) (args := #[.pointer (some ⟨W.heap.size + 1, 0, none⟩)]) (by simp) (by simp [go_sem]) ?_
  refine (catch_idleP ⟨W.heap.size + 1, 0, none⟩ _).mono ?_
  rintro e u' w'' ⟨rfl, rfl, rfl⟩
  exact ⟨_, results_cell_row rfl _ _ (W.heap.size + 1) 55 #[.int .i64 (0), .slice none 0 0] (0, 0) _ rfl (K3.out.row _) Try.underlying55 rfl infoA2, H3.out⟩
set_option maxRecDepth 100000 in
set_option maxHeartbeats 4000000 in
theorem co_crash {W : World} {base d : Nat} {vf ve vc : Value} {n : Nat} {s : DS} {C : List (Nat × List Int)} (h : Dev W base d vf ve vc n s.F (mkW s.F (byC C)) C s.fu s.off) (hby : byC C = s.C) (hd : base ≤ d) (m : Nat) (hm : n = 4 * m) (hn : 0 < n) (hC : C.length + 4 ≤ 100000) (hfu : s.fu < 9223372036854775808) (k A : Int) (vd : Value) (D : List Int) (w0 : World) (hD : Rd .u8 w0 vd D) (hw0 : Below w0.heap.size w0 W) (hw1 : w0.heap.size ≤ base) (hbd : ∀ z ∈ D, 0 ≤ z ∧ z < 256) (hk : k = 5) :
    Calls Try.prog 27 #[.pointer (some ⟨d, 0, none⟩), .agg #[.int .i64 k, .int .i64 A, vd]] W (CoPost W base d vf ve n (doS m k A D s)) := by
  subst hk
  have hbW : base ≤ W.heap.size := by have := h.blk.lt; omega
  have hmf : ∀ (fn : Fn) (first cap : Array Value) (w : World), (Instr.makeFunc fn first cap).run Try.prog w = .ok (.func fn first cap) w := fun _ _ _ _ => rfl
  obtain ⟨da, dc, rfl⟩ : ∃ a cap, vd = .slice a D.length cap := by obtain ⟨a, cap, e, _⟩ := hD; exact ⟨a, cap, e⟩
  obtain ⟨DL, hDL⟩ : ∃ DL, DL = D.length := ⟨_, rfl⟩
  rw [show doS m 5 A D s = (⟨mkW s.F (keptTo D s.C s.C.length), [], -1, false⟩, 0, []) from by unfold doS; rfl]
  rw [← hDL]
  have HS := hide (boxA_start W 5 A (.slice da DL dc))
  obtain ⟨W2, hW2⟩ : ∃ W2, W2 = (W.alloc (.cells #[.int .i64 5, .int .i64 A, .slice da DL dc] 30)).alloc (.cells #[.int .i64 0, .slice none 0 0] 55) := ⟨_, rfl⟩
  rw [← hW2] at HS
  have HW2 := hide hW2
  have V2 := hide (h.below HS.out.low)
  have b0 := (HS.out.box.cell 0).trans (show _ = some (.int .i64 5) from rfl)
  have b1 := (HS.out.box.cell 1).trans (show _ = some (.int .i64 A) from rfl)
  have b2 := (HS.out.box.cell 2).trans (show _ = some (.slice da DL dc) from rfl)
  have d4 := (V2.out.blk.cell 4).trans (show _ = some (.bool s.off) from rfl)
  have HD := hide (show Rd .u8 w0 (.slice da DL dc) D ∧ Below w0.heap.size w0 W2 by rw [hDL]; exact ⟨hD, hw0.trans (HS.out.low.mono (by omega))⟩)
  have HDL := hide hDL
  have HBy := hide hby
  have L2 := hide (show Below base W W2 from HS.out.low.mono hbW)
  have Y2 := hide (show KpY TyP W W2 from (KpY.refl _ _).below HS.out.low)
  have HM := hide hm
  clear h hW2 hD hDL hby hw0 hm
  cases hof : s.off with
  | false =>
    rw [hof] at d4 V2
    go_enter_defers Try.func27, Try.ntmps27
    go_upto_region 1 with fail
    rw [← HW2.out]
    go_wp2_with fail
    refine (crashP_any V2.out hd hn (by omega) (.slice da DL dc) D w0 HD.out.1 HD.out.2 hw1 hbd).mono ?_
    rintro e w3 ⟨rfl, v3, l3, y3⟩
    have K3 := hide (y3.blk HS.out.ans (by unfold TyP; decide))
    have H3 := hide (show CoPost W base d vf ve n (⟨mkW s.F (keptTo D s.C s.C.length), [], -1, false⟩, 0, []) (.returned (.agg #[.int .i64 0, .slice none 0 0])) (w3.setRow (W.heap.size + 1) #[.int .i64 0, .slice none 0 0]) from by
      rw [show C.length = s.C.length by rw [← HBy.out, byC_len], HBy.out] at v3
      exact coEnd (s := ⟨mkW s.F (keptTo D s.C s.C.length), [], -1, false⟩) (C := []) v3 rfl K3.out (L2.out.trans l3) (Y2.out.trans y3) hbW 0 (.slice none 0 0) [] (World.ownsRow_nil _ _ _ _))
    clear v3 l3 y3
    go_wp2_with (first | (refine wpList_store_row rfl 55 _ _ rfl (W.heap.size + 1) #[.int .i64 (0), .slice none 0 0] rfl rfl 55 _ K3.out infoA2 rfl (oneA _ _ rfl rfl) ?_) | fail)
    refine leaves_cons (f := 43) (args := #[.pointer (some ⟨W.heap.size + 1, 0, none⟩)]) (by simp) (by simp [go_sem]) ?_
    refine (catch_idleP ⟨W.heap.size + 1, 0, none⟩ _).mono ?_
    rintro e u' w'' ⟨rfl, rfl, rfl⟩
    exact ⟨_, results_cell_row rfl _ _ (W.heap.size + 1) 55 #[.int .i64 (0), .slice none 0 0] (0, 0) _ rfl (K3.out.row _) Try.underlying55 rfl infoA2, H3.out⟩
  | true =>
    rw [hof] at d4 V2
    go_enter_defers Try.func27, Try.ntmps27
    go_upto_region 1 with fail
    rw [← HW2.out]
    go_wp2_with fail
    refine (crashP_any V2.out hd hn (by omega) (.slice da DL dc) D w0 HD.out.1 HD.out.2 hw1 hbd).mono ?_
    rintro e w3 ⟨rfl, v3, l3, y3⟩
    have K3 := hide (y3.blk HS.out.ans (by unfold TyP; decide))
    have H3 := hide (show CoPost W base d vf ve n (⟨mkW s.F (keptTo D s.C s.C.length), [], -1, false⟩, 0, []) (.returned (.agg #[.int .i64 0, .slice none 0 0])) (w3.setRow (W.heap.size + 1) #[.int .i64 0, .slice none 0 0]) from by
      rw [show C.length = s.C.length by rw [← HBy.out, byC_len], HBy.out] at v3
      exact coEnd (s := ⟨mkW s.F (keptTo D s.C s.C.length), [], -1, false⟩) (C := []) v3 rfl K3.out (L2.out.trans l3) (Y2.out.trans y3) hbW 0 (.slice none 0 0) [] (World.ownsRow_nil _ _ _ _))
    clear v3 l3 y3
    go_wp2_with (first | (refine wpList_store_row rfl 55 _ _ rfl (W.heap.size + 1) #[.int .i64 (0), .slice none 0 0] rfl rfl 55 _ K3.out infoA2 rfl (oneA _ _ rfl rfl) ?_) | fail)
    refine leaves_cons (f := 43) (args := #[.pointer (some ⟨W.heap.size + 1, 0, none⟩)]) (by simp) (by simp [go_sem]) ?_
    refine (catch_idleP ⟨W.heap.size + 1, 0, none⟩ _).mono ?_
    rintro e u' w'' ⟨rfl, rfl, rfl⟩
    exact ⟨_, results_cell_row rfl _ _ (W.heap.size + 1) 55 #[.int .i64 (0), .slice none 0 0] (0, 0) _ rfl (K3.out.row _) Try.underlying55 rfl infoA2, H3.out⟩
set_option maxRecDepth 100000 in
set_option maxHeartbeats 4000000 in
theorem co_write {W : World} {base d : Nat} {vf ve vc : Value} {n : Nat} {s : DS} {C : List (Nat × List Int)} (h : Dev W base d vf ve vc n s.F (mkW s.F (byC C)) C s.fu s.off) (hby : byC C = s.C) (hd : base ≤ d) (m : Nat) (hm : n = 4 * m) (hn : 0 < n) (hC : C.length + 4 ≤ 100000) (hfu : s.fu < 9223372036854775808) (k A : Int) (vd : Value) (D : List Int) (w0 : World) (hD : Rd .u8 w0 vd D) (hw0 : Below w0.heap.size w0 W) (hw1 : w0.heap.size ≤ base) (hbd : ∀ z ∈ D, 0 ≤ z ∧ z < 256) (hk : k = 2) (ho : s.off = false) :
    Calls Try.prog 27 #[.pointer (some ⟨d, 0, none⟩), .agg #[.int .i64 k, .int .i64 A, vd]] W (CoPost W base d vf ve n (doS m k A D s)) := by
  subst hk
  have hbW : base ≤ W.heap.size := by have := h.blk.lt; omega
  have hmf : ∀ (fn : Fn) (first cap : Array Value) (w : World), (Instr.makeFunc fn first cap).run Try.prog w = .ok (.func fn first cap) w := fun _ _ _ _ => rfl
  obtain ⟨da, dc, rfl⟩ : ∃ a cap, vd = .slice a D.length cap := by obtain ⟨a, cap, e, _⟩ := hD; exact ⟨a, cap, e⟩
  obtain ⟨DL, hDL⟩ : ∃ DL, DL = D.length := ⟨_, rfl⟩
  rw [show doS m 2 A D s = (doS m 2 A D s) from by rfl]
  rw [← hDL]
  have HS := hide (boxA_start W 2 A (.slice da DL dc))
  obtain ⟨W2, hW2⟩ : ∃ W2, W2 = (W.alloc (.cells #[.int .i64 2, .int .i64 A, .slice da DL dc] 30)).alloc (.cells #[.int .i64 0, .slice none 0 0] 55) := ⟨_, rfl⟩
  rw [← hW2] at HS
  have HW2 := hide hW2
  have V2 := hide (h.below HS.out.low)
  have b0 := (HS.out.box.cell 0).trans (show _ = some (.int .i64 2) from rfl)
  have b1 := (HS.out.box.cell 1).trans (show _ = some (.int .i64 A) from rfl)
  have b2 := (HS.out.box.cell 2).trans (show _ = some (.slice da DL dc) from rfl)
  have d4 := (V2.out.blk.cell 4).trans (show _ = some (.bool s.off) from rfl)
  have HD := hide (show Rd .u8 w0 (.slice da DL dc) D ∧ Below w0.heap.size w0 W2 by rw [hDL]; exact ⟨hD, hw0.trans (HS.out.low.mono (by omega))⟩)
  have HDL := hide hDL
  have HBy := hide hby
  have L2 := hide (show Below base W W2 from HS.out.low.mono hbW)
  have Y2 := hide (show KpY TyP W W2 from (KpY.refl _ _).below HS.out.low)
  have HM := hide hm
  clear h hW2 hD hDL hby hw0 hm
  have HWc := hide (writeC_any V2.out HBy.out hd m HM.out hC hfu ho A (.slice da DL dc) D (HD.out.1.below HD.out.2))
  rw [ho] at d4
  have HO := hide ho
  clear ho
  have HD1 := hide (show (doS m 2 A D s).2.2 = [] from by unfold doS; rw [if_neg (by decide), if_neg (by decide), if_neg (by rw [HO.out]; decide), if_neg (by decide), if_pos rfl]; split; split <;> rfl; rfl)
  generalize doS m 2 A D s = r at HWc HD1 ⊢
  obtain ⟨s1, c1, D1⟩ := r
  simp only at HD1
  go_enter_defers Try.func27, Try.ntmps27
  go_upto_region 1 with fail
  rw [← HW2.out]
  go_wp2_with fail
  refine HWc.out.mono ?_
  rintro e w3 ⟨vc3, C3, hend, v3, hby3, l3, y3⟩
  simp only at hend v3 hby3
  have K3 := hide (y3.blk HS.out.ans (by unfold TyP; decide))
  rcases hend with rfl | ⟨h20, rfl⟩
  · have H3 := hide (coEnd v3 hby3 K3.out (L2.out.trans l3) (Y2.out.trans y3) hbW c1 (.slice none 0 0) [] (World.ownsRow_nil _ _ _ _))
    clear v3 hby3 l3 y3
    go_wp2_with (first | (refine wpList_store_row rfl 55 _ _ rfl (W.heap.size + 1) #[.int .i64 (c1), .slice none 0 0] rfl rfl 55 _ K3.out infoA2 rfl (oneA _ _ rfl rfl) ?_) | fail)
    refine leaves_cons (f := 43) (args := #[.pointer (some ⟨W.heap.size + 1, 0, none⟩)]) (by simp) (by simp [go_sem]) ?_
    refine (catch_idleP ⟨W.heap.size + 1, 0, none⟩ _).mono ?_
    rintro e u' w'' ⟨rfl, rfl, rfl⟩
    refine ⟨_, results_cell_row rfl _ _ (W.heap.size + 1) 55 #[.int .i64 (c1), .slice none 0 0] (0, 0) _ rfl (K3.out.row _) Try.underlying55 rfl infoA2, ?_⟩
    rw [← HD1.out] at H3
    exact H3.out
  · have H20 := hide h20
    have V3 := hide (And.intro v3 (And.intro hby3 (And.intro (L2.out.trans l3) (Y2.out.trans y3))))
    clear v3 hby3 l3 y3 h20
    go_wp2
    refine leaves_cons (f := 43) (args := #[.pointer (some ⟨W.heap.size + 1, 0, none⟩)]) (by simp) (by simp [go_sem]) ?_
    refine (catch_powerP (W.heap.size + 1) _ _ _ K3.out).mono ?_
    rintro e u' w'' ⟨rfl, rfl, w4, b4, rfl⟩
    have K4 := hide (K3.out.below b4 K3.out.lt)
    have H4 := hide (coEnd (V3.out.1.below b4) V3.out.2.1 K4.out (V3.out.2.2.1.trans (b4.mono (Nat.le_trans hbW V3.out.2.2.1.size))) (V3.out.2.2.2.below b4) hbW 20 (.slice none 0 0) [] (World.ownsRow_nil _ _ _ _))
    refine ⟨_, results_cell_row rfl _ _ (W.heap.size + 1) 55 #[.int .i64 (20), .slice none 0 0] (0, 0) _ rfl (K4.out.row _) Try.underlying55 rfl infoA2, ?_⟩
    rw [H20.out, HD1.out]
    exact H4.out
theorem carryOut_any {W : World} {base d : Nat} {vf ve vc : Value} {n : Nat} {s : DS} {C : List (Nat × List Int)} (h : Dev W base d vf ve vc n s.F (mkW s.F (byC C)) C s.fu s.off) (hby : byC C = s.C) (hd : base ≤ d) (m : Nat) (hm : n = 4 * m) (hn : 0 < n) (hC : C.length + 4 ≤ 100000) (hfu : s.fu < 9223372036854775808) (k A : Int) (vd : Value) (D : List Int) (w0 : World) (hD : Rd .u8 w0 vd D) (hw0 : Below w0.heap.size w0 W) (hw1 : w0.heap.size ≤ base) (hbd : ∀ z ∈ D, 0 ≤ z ∧ z < 256) :
    Calls Try.prog 27 #[.pointer (some ⟨d, 0, none⟩), .agg #[.int .i64 k, .int .i64 A, vd]] W (CoPost W base d vf ve n (doS m k A D s)) := by
  by_cases hk4 : k = 4
  · exact co_fuse h hby hd m hm hn hC hfu k A vd D w0 hD hw0 hw1 hbd hk4
  by_cases hk5 : k = 5
  · exact co_crash h hby hd m hm hn hC hfu k A vd D w0 hD hw0 hw1 hbd hk5
  cases ho : s.off with
  | true => exact co_off h hby hd m hm hn hC hfu k A vd D w0 hD hw0 hw1 hbd hk4 hk5 ho
  | false =>
    by_cases hk1 : k = 1
    · exact co_read h hby hd m hm hn hC hfu k A vd D w0 hD hw0 hw1 hbd hk1 ho
    by_cases hk2 : k = 2
    · exact co_write h hby hd m hm hn hC hfu k A vd D w0 hD hw0 hw1 hbd hk2 ho
    by_cases hk3 : k = 3
    · exact co_barrier h hby hd m hm hn hC hfu k A vd D w0 hD hw0 hw1 hbd hk3 ho
    exact co_kind h hby hd m hm hn hC hfu k A vd D w0 hD hw0 hw1 hbd hk4 hk5 ho hk1 hk2 hk3
end Go.Proofs.Ythghibopnnjboaa
