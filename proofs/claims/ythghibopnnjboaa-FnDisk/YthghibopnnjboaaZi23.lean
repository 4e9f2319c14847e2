/- The model's Do, walked. -/
import Derived.Test.YthghibopnnjboaaZi22
namespace Go.Proofs.Ythghibopnnjboaa
set_option linter.unusedVariables false
set_option linter.unusedSimpArgs false
open Go.RowKit

/-- What Do leaves and answers. -/
def DoPost (W : World) (base d q : Nat) (r : DS × Int × List Int) (e : Ending) (w' : World) : Prop :=
  ∃ vi vc vw cs H hs va, e = .returned (.agg #[.int .i64 r.2.1, va]) ∧ DvM w' base d vi vc vw r.1.F r.1.C cs r.1.fu r.1.off H hs ∧ w'.ownsRow W.heap.size 5 1 va r.2.2.length (r.2.2.map (Value.int .u8)) ∧ Below base W w' ∧ KpY TyM W w' ∧ H.length ≤ q
/-- What stands while Do runs: the operation in its box, the answer's cell. -/
structure DoIn (W wx : World) (base d q : Nat) (vi vc vw : Value) (s : DS) (cs : List Value) (H : List NE) (hs : List Value) (k A : Int) (vd : Value) : Prop where
  dev : DvM wx base d vi vc vw s.F s.C cs s.fu s.off H hs
  box : Blk wx W.heap.size #[.int .i64 k, .int .i64 A, vd] 30
  ans : Blk wx (W.heap.size + 1) #[.int .i64 0, .slice none 0 0] 55
  low : Below base W wx
  kp : KpY TyM W wx
  hq : H.length ≤ q
section
variable {W wx : World} {base d q : Nat} {vi vc vw : Value} {s : DS} {cs : List Value} {H : List NE} {hs : List Value} {k A : Int} {vd : Value}
theorem doEnd (h : DoIn W wx base d q vi vc vw s cs H hs k A vd) (hb : base ≤ W.heap.size) (code : Int) (va : Value) (ans : List Int) (ha : wx.ownsRow W.heap.size 5 1 va ans.length (ans.map (Value.int .u8))) :
    DoPost W base d q (s, code, ans) (.returned (.agg #[.int .i64 code, va])) (wx.setRow (W.heap.size + 1) #[.int .i64 code, va]) := by
  have k1 : KpY (fun t => t = 55) wx (wx.setRow (W.heap.size + 1) #[.int .i64 code, va]) := (KpY.refl _ _).setRow h.ans rfl
  have hl := h.low.size
  refine ⟨_, _, _, _, _, _, va, rfl, h.dev.kpy k1 (by decide) (by decide) (by decide) (by decide), k1.own ha (by decide), ?_, h.kp.freshK (setRow_grown _ _ _) (by omega) hl, h.hq⟩
  exact below_setRow h.low (by omega) _
theorem doStart (h : DvM W base d vi vc vw s.F s.C cs s.fu s.off H hs) (hb : base ≤ W.heap.size) (hq : H.length ≤ q) :
    DoIn W ((W.alloc (.cells #[.int .i64 k, .int .i64 A, vd] 30)).alloc (.cells #[.int .i64 0, .slice none 0 0] 55)) base d q vi vc vw s cs H hs k A vd := by
  have b1 : Below W.heap.size W (W.alloc (.cells #[.int .i64 k, .int .i64 A, vd] 30)) := (Below.refl _ _).alloc (Nat.le_refl _) _
  have b2 : Below W.heap.size W ((W.alloc (.cells #[.int .i64 k, .int .i64 A, vd] 30)).alloc (.cells #[.int .i64 0, .slice none 0 0] 55)) := b1.alloc b1.size _
  have k2 := Blk.new (W.alloc (.cells #[.int .i64 k, .int .i64 A, vd] 30)) #[.int .i64 0, .slice none 0 0] 55
  rw [World.size_alloc] at k2
  exact ⟨h.below b2, (Blk.new W _ _).alloc _, k2, b2.mono hb, (KpY.refl _ _).below b2, hq⟩
/-- A call that turns nothing that was there but the device's blocks. -/
theorem DoIn.went {wy : World} {vi' vc' vw' : Value} {s' : DS} {cs' hs' : List Value} {H' : List NE} (h : DoIn W wx base d q vi vc vw s cs H hs k A vd) (hv : DvM wy base d vi' vc' vw' s'.F s'.C cs' s'.fu s'.off H' hs') (hb : Below base wx wy) (hk : KpY TyM wx wy) (hq' : H'.length ≤ q) : DoIn W wy base d q vi' vc' vw' s' cs' H' hs' k A vd :=
  ⟨hv, hk.blk h.box (by unfold TyM; decide), hk.blk h.ans (by unfold TyM; decide), h.low.trans hb, h.kp.trans hk, hq'⟩
theorem DoIn.belowK {wy : World} (h : DoIn W wx base d q vi vc vw s cs H hs k A vd) (hb : Below wx.heap.size wx wy) (hw : base ≤ wx.heap.size) : DoIn W wy base d q vi vc vw s cs H hs k A vd :=
  ⟨h.dev.below hb, h.box.below hb h.box.lt, h.ans.below hb h.ans.lt, h.low.trans (hb.mono hw), h.kp.below hb, h.hq⟩
end
theorem oneA (x y : Value) (h1 : x.oneCell' = true) (h2 : y.oneCell' = true) : (#[x, y] : Array Value).all (·.oneCell') = true := by simp [h1, h2]
set_option maxRecDepth 100000 in
set_option maxHeartbeats 4000000 in
theorem doM_fuse {W : World} {base d : Nat} {vi vc vw : Value} {s : DS} {cs : List Value} {H : List NE} {hs : List Value} (h : DvM W base d vi vc vw s.F s.C cs s.fu s.off H hs) (hd : base ≤ d) (m : Nat) (hm : s.F.length = m * 512) (hC : s.C.length + 4 ≤ 100000) (hfu : s.fu < 9223372036854775808) (k A : Int) (vd : Value) (D : List Int) (w0 : World) (hD : Rd .u8 w0 vd D) (hw0 : Below w0.heap.size w0 W) (hw1 : w0.heap.size ≤ base) (hbd : ∀ z ∈ D, 0 ≤ z ∧ z < 256) (q : Nat) (hq : H.length + 1 ≤ q) (hq2 : q ≤ 100000) (hk : k = 4) :
    Calls Try.prog 32 #[.pointer (some ⟨d, 0, none⟩), .agg #[.int .i64 k, .int .i64 A, vd]] W (DoPost W base d q (doS m k A D s)) := by
  subst hk
  have hbW : base ≤ W.heap.size := by have := h.blk.lt; omega
  obtain ⟨va0, vcap, rfl⟩ : ∃ a cap, vd = .slice a D.length cap := by obtain ⟨a, cap, e, _⟩ := hD; exact ⟨a, cap, e⟩
  have HS := hide (doStart (k := 4) (A := A) (vd := .slice va0 D.length vcap) h hbW (show H.length ≤ q by omega))
  obtain ⟨W2, hW2⟩ : ∃ W2, W2 = (W.alloc (.cells #[.int .i64 4, .int .i64 A, .slice va0 D.length vcap] 30)).alloc (.cells #[.int .i64 0, .slice none 0 0] 55) := ⟨_, rfl⟩
  rw [← hW2] at HS
  have HW2 := hide hW2
  have HD := hide (And.intro hD (And.intro hw0 hbd))
  have HM := hide hm
  have hdl : D.length ≤ 9223372036854775807 := by have := hD.len; unfold maxLen at this; omega
  have hn1 := h.n1
  obtain ⟨DL, hDL⟩ : ∃ DL, DL = D.length := ⟨_, rfl⟩
  rw [← hDL] at HS HW2 hdl ⊢
  have HDL := hide hDL
  rw [show doS m 4 A D s = (⟨s.F, s.C, A, s.off⟩, 0, []) from by unfold doS; rfl]
  clear h hD hw0 hm hbd hW2 hDL
  have b0 := (HS.out.box.cell 0).trans (show _ = some (.int .i64 4) from rfl)
  have b1 := (HS.out.box.cell 1).trans (show _ = some (.int .i64 A) from rfl)
  have b2 := (HS.out.box.cell 2).trans (show _ = some (.slice va0 DL vcap) from rfl)
  have d3 := (HS.out.dev.blk.cell 3).trans (show _ = some (.bool s.off) from rfl)
  go_enter Try.func32, Try.ntmps32
  go_upto_region 1 with fail
  rw [← HW2.out]
  have y2 := (HS.out.dev.blk.cell 2).trans (show _ = some (.int .i64 s.fu) from rfl)
  have f2 := HS.out.dev.blk.frozen 2
  have H3 := hide (show DoIn W (W2.setCell ⟨d, 2, none⟩ (.int .i64 A)) base d q vi vc vw ⟨s.F, s.C, A, s.off⟩ cs H hs 4 A (.slice va0 DL vcap) from HS.out.went (HS.out.dev.setFuse A) ((Below.refl _ _).setCell (p := ⟨d, 2, none⟩) hd _) ((KpY.refl _ _).setCell HS.out.dev.blk (.inl rfl)) HS.out.hq)
  go_wp2_with (first | (refine wpList_store_row rfl 55 _ _ rfl (W.heap.size + 1) #[.int .i64 (0), .slice none 0 0] rfl rfl 55 _ H3.out.ans infoA2 rfl (oneA _ _ rfl rfl) ?_) | fail)
  refine bodyPost_ret (v := .agg #[.int .i64 (0), .slice none 0 0]) ?_ rfl (doEnd H3.out hbW (0) (.slice none 0 0) ([]) (World.ownsRow_nil _ _ _ _))
  exact results_cell_row rfl _ _ (W.heap.size + 1) 55 #[.int .i64 (0), .slice none 0 0] (0, 0) _ rfl (H3.out.ans.row _) Try.underlying55 rfl infoA2
set_option maxRecDepth 100000 in
set_option maxHeartbeats 4000000 in
theorem doM_crash {W : World} {base d : Nat} {vi vc vw : Value} {s : DS} {cs : List Value} {H : List NE} {hs : List Value} (h : DvM W base d vi vc vw s.F s.C cs s.fu s.off H hs) (hd : base ≤ d) (m : Nat) (hm : s.F.length = m * 512) (hC : s.C.length + 4 ≤ 100000) (hfu : s.fu < 9223372036854775808) (k A : Int) (vd : Value) (D : List Int) (w0 : World) (hD : Rd .u8 w0 vd D) (hw0 : Below w0.heap.size w0 W) (hw1 : w0.heap.size ≤ base) (hbd : ∀ z ∈ D, 0 ≤ z ∧ z < 256) (q : Nat) (hq : H.length + 1 ≤ q) (hq2 : q ≤ 100000) (hk : k = 5) :
    Calls Try.prog 32 #[.pointer (some ⟨d, 0, none⟩), .agg #[.int .i64 k, .int .i64 A, vd]] W (DoPost W base d q (doS m k A D s)) := by
  subst hk
  have hbW : base ≤ W.heap.size := by have := h.blk.lt; omega
  obtain ⟨va0, vcap, rfl⟩ : ∃ a cap, vd = .slice a D.length cap := by obtain ⟨a, cap, e, _⟩ := hD; exact ⟨a, cap, e⟩
  have HS := hide (doStart (k := 5) (A := A) (vd := .slice va0 D.length vcap) h hbW (show H.length ≤ q by omega))
  obtain ⟨W2, hW2⟩ : ∃ W2, W2 = (W.alloc (.cells #[.int .i64 5, .int .i64 A, .slice va0 D.length vcap] 30)).alloc (.cells #[.int .i64 0, .slice none 0 0] 55) := ⟨_, rfl⟩
  rw [← hW2] at HS
  have HW2 := hide hW2
  have HD := hide (And.intro hD (And.intro hw0 hbd))
  have HM := hide hm
  have hdl : D.length ≤ 9223372036854775807 := by have := hD.len; unfold maxLen at this; omega
  have hn1 := h.n1
  obtain ⟨DL, hDL⟩ : ∃ DL, DL = D.length := ⟨_, rfl⟩
  rw [← hDL] at HS HW2 hdl ⊢
  have HDL := hide hDL
  rw [show doS m 5 A D s = (⟨mkW s.F (keptTo D s.C s.C.length), [], -1, false⟩, 0, []) from by unfold doS; rfl]
  clear h hD hw0 hm hbd hW2 hDL
  have b0 := (HS.out.box.cell 0).trans (show _ = some (.int .i64 5) from rfl)
  have b1 := (HS.out.box.cell 1).trans (show _ = some (.int .i64 A) from rfl)
  have b2 := (HS.out.box.cell 2).trans (show _ = some (.slice va0 DL vcap) from rfl)
  have d3 := (HS.out.dev.blk.cell 3).trans (show _ = some (.bool s.off) from rfl)
  go_enter Try.func32, Try.ntmps32
  go_upto_region 1 with fail
  rw [← HW2.out]
  have HR := hide (show Rd .u8 W2 (.slice va0 DL vcap) D by rw [HDL.out]; exact HD.out.1.below (HD.out.2.1.trans (HS.out.low.mono hw1)))
  go_wp2_with fail
  refine (crashM_any HS.out.dev hd _ D HR.out HD.out.2.2).mono ?_
  rintro e w1 ⟨vi1, rfl, v1, l1, q1⟩
  have H3 := hide (show DoIn W w1 base d q vi1 (.slice none 0 0) vw ⟨mkW s.F (keptTo D s.C s.C.length), [], -1, false⟩ [] H hs 5 A (.slice va0 DL vcap) from HS.out.went v1 l1 (fun b hb hT => q1 b hb (fun e => by subst e; exact hT _ _ _ HS.out.dev.blk (.inl rfl))) HS.out.hq)
  clear v1 l1 q1
  go_wp2_with (first | (refine wpList_store_row rfl 55 _ _ rfl (W.heap.size + 1) #[.int .i64 (0), .slice none 0 0] rfl rfl 55 _ H3.out.ans infoA2 rfl (oneA _ _ rfl rfl) ?_) | fail)
  refine bodyPost_ret (v := .agg #[.int .i64 (0), .slice none 0 0]) ?_ rfl (doEnd H3.out hbW (0) (.slice none 0 0) ([]) (World.ownsRow_nil _ _ _ _))
  exact results_cell_row rfl _ _ (W.heap.size + 1) 55 #[.int .i64 (0), .slice none 0 0] (0, 0) _ rfl (H3.out.ans.row _) Try.underlying55 rfl infoA2
set_option maxRecDepth 100000 in
set_option maxHeartbeats 4000000 in
theorem doM_off {W : World} {base d : Nat} {vi vc vw : Value} {s : DS} {cs : List Value} {H : List NE} {hs : List Value} (h : DvM W base d vi vc vw s.F s.C cs s.fu s.off H hs) (hd : base ≤ d) (m : Nat) (hm : s.F.length = m * 512) (hC : s.C.length + 4 ≤ 100000) (hfu : s.fu < 9223372036854775808) (k A : Int) (vd : Value) (D : List Int) (w0 : World) (hD : Rd .u8 w0 vd D) (hw0 : Below w0.heap.size w0 W) (hw1 : w0.heap.size ≤ base) (hbd : ∀ z ∈ D, 0 ≤ z ∧ z < 256) (q : Nat) (hq : H.length + 1 ≤ q) (hq2 : q ≤ 100000) (hk4 : ¬ (k = 4)) (hk5 : ¬ (k = 5)) (ho : s.off = true) :
    Calls Try.prog 32 #[.pointer (some ⟨d, 0, none⟩), .agg #[.int .i64 k, .int .i64 A, vd]] W (DoPost W base d q (doS m k A D s)) := by
  have hbW : base ≤ W.heap.size := by have := h.blk.lt; omega
  obtain ⟨va0, vcap, rfl⟩ : ∃ a cap, vd = .slice a D.length cap := by obtain ⟨a, cap, e, _⟩ := hD; exact ⟨a, cap, e⟩
  have HS := hide (doStart (k := k) (A := A) (vd := .slice va0 D.length vcap) h hbW (show H.length ≤ q by omega))
  obtain ⟨W2, hW2⟩ : ∃ W2, W2 = (W.alloc (.cells #[.int .i64 k, .int .i64 A, .slice va0 D.length vcap] 30)).alloc (.cells #[.int .i64 0, .slice none 0 0] 55) := ⟨_, rfl⟩
  rw [← hW2] at HS
  have HW2 := hide hW2
  have HD := hide (And.intro hD (And.intro hw0 hbd))
  have HM := hide hm
  have hdl : D.length ≤ 9223372036854775807 := by have := hD.len; unfold maxLen at this; omega
  have hn1 := h.n1
  obtain ⟨DL, hDL⟩ : ∃ DL, DL = D.length := ⟨_, rfl⟩
  rw [← hDL] at HS HW2 hdl ⊢
  have HDL := hide hDL
  rw [show doS m k A D s = (s, 20, []) from by unfold doS; rw [if_neg hk4, if_neg hk5, if_pos ho]]
  clear h hD hw0 hm hbd hW2 hDL
  have b0 := (HS.out.box.cell 0).trans (show _ = some (.int .i64 k) from rfl)
  have b1 := (HS.out.box.cell 1).trans (show _ = some (.int .i64 A) from rfl)
  have b2 := (HS.out.box.cell 2).trans (show _ = some (.slice va0 DL vcap) from rfl)
  have d3 := (HS.out.dev.blk.cell 3).trans (show _ = some (.bool s.off) from rfl)
  go_enter Try.func32, Try.ntmps32
  go_upto_region 1 with fail
  rw [← HW2.out]
  rw [ho] at d3
  have HO := hide ho
  clear ho
  go_wp2_with (first | (refine wpList_store_row rfl 55 _ _ rfl (W.heap.size + 1) #[.int .i64 (20), .slice none 0 0] rfl rfl 55 _ HS.out.ans infoA2 rfl (oneA _ _ rfl rfl) ?_) | fail)
  refine bodyPost_ret (v := .agg #[.int .i64 (20), .slice none 0 0]) ?_ rfl (doEnd HS.out hbW (20) (.slice none 0 0) ([]) (World.ownsRow_nil _ _ _ _))
  exact results_cell_row rfl _ _ (W.heap.size + 1) 55 #[.int .i64 (20), .slice none 0 0] (0, 0) _ rfl (HS.out.ans.row _) Try.underlying55 rfl infoA2
set_option maxRecDepth 100000 in
set_option maxHeartbeats 4000000 in
theorem doM_read_neg {W : World} {base d : Nat} {vi vc vw : Value} {s : DS} {cs : List Value} {H : List NE} {hs : List Value} (h : DvM W base d vi vc vw s.F s.C cs s.fu s.off H hs) (hd : base ≤ d) (m : Nat) (hm : s.F.length = m * 512) (hC : s.C.length + 4 ≤ 100000) (hfu : s.fu < 9223372036854775808) (k A : Int) (vd : Value) (D : List Int) (w0 : World) (hD : Rd .u8 w0 vd D) (hw0 : Below w0.heap.size w0 W) (hw1 : w0.heap.size ≤ base) (hbd : ∀ z ∈ D, 0 ≤ z ∧ z < 256) (q : Nat) (hq : H.length + 1 ≤ q) (hq2 : q ≤ 100000) (hk : k = 1) (ho : s.off = false) (hA : A < 0) :
    Calls Try.prog 32 #[.pointer (some ⟨d, 0, none⟩), .agg #[.int .i64 k, .int .i64 A, vd]] W (DoPost W base d q (doS m k A D s)) := by
  subst hk
  have hbW : base ≤ W.heap.size := by have := h.blk.lt; omega
  obtain ⟨va0, vcap, rfl⟩ : ∃ a cap, vd = .slice a D.length cap := by obtain ⟨a, cap, e, _⟩ := hD; exact ⟨a, cap, e⟩
  have HS := hide (doStart (k := 1) (A := A) (vd := .slice va0 D.length vcap) h hbW (show H.length ≤ q by omega))
  obtain ⟨W2, hW2⟩ : ∃ W2, W2 = (W.alloc (.cells #[.int .i64 1, .int .i64 A, .slice va0 D.length vcap] 30)).alloc (.cells #[.int .i64 0, .slice none 0 0] 55) := ⟨_, rfl⟩
  rw [← hW2] at HS
  have HW2 := hide hW2
  have HD := hide (And.intro hD (And.intro hw0 hbd))
  have HM := hide hm
  have hdl : D.length ≤ 9223372036854775807 := by have := hD.len; unfold maxLen at this; omega
  have hn1 := h.n1
  obtain ⟨DL, hDL⟩ : ∃ DL, DL = D.length := ⟨_, rfl⟩
  rw [← hDL] at HS HW2 hdl ⊢
  have HDL := hide hDL
  rw [show doS m 1 A D s = (s, 19, []) from by unfold doS; rw [if_neg (by decide), if_neg (by decide), if_neg (by rw [ho]; decide), if_pos rfl, if_neg (by omega)]]
  clear h hD hw0 hm hbd hW2 hDL
  have b0 := (HS.out.box.cell 0).trans (show _ = some (.int .i64 1) from rfl)
  have b1 := (HS.out.box.cell 1).trans (show _ = some (.int .i64 A) from rfl)
  have b2 := (HS.out.box.cell 2).trans (show _ = some (.slice va0 DL vcap) from rfl)
  have d3 := (HS.out.dev.blk.cell 3).trans (show _ = some (.bool s.off) from rfl)
  go_enter Try.func32, Try.ntmps32
  go_upto_region 1 with fail
  rw [← HW2.out]
  rw [ho] at d3
  have HO := hide ho
  clear ho
  have hri := HS.out.dev.img
  obtain ⟨ia, ic, hie⟩ := shape_rowK hri
  subst hie
  have d0 := (HS.out.dev.blk.cell 0).trans (show _ = some (.slice ia s.F.length ic) from rfl)
  obtain ⟨FL, hFL⟩ : ∃ FL, FL = s.F.length := ⟨_, rfl⟩
  rw [← hFL] at d0 hn1
  have hdiv : (FL : Int) / 512 = (m : Int) := by have := HM.out; omega
  have HFL := hide hFL
  clear hri hFL
  have qA : ¬ (0 ≤ A) := by omega
  go_wp2_with (first | (refine wpList_store_row rfl 55 _ _ rfl (W.heap.size + 1) #[.int .i64 (19), .slice none 0 0] rfl rfl 55 _ HS.out.ans infoA2 rfl (oneA _ _ rfl rfl) ?_) | fail)
  refine bodyPost_ret (v := .agg #[.int .i64 (19), .slice none 0 0]) ?_ rfl (doEnd HS.out hbW (19) (.slice none 0 0) ([]) (World.ownsRow_nil _ _ _ _))
  exact results_cell_row rfl _ _ (W.heap.size + 1) 55 #[.int .i64 (19), .slice none 0 0] (0, 0) _ rfl (HS.out.ans.row _) Try.underlying55 rfl infoA2
set_option maxRecDepth 100000 in
set_option maxHeartbeats 4000000 in
theorem doM_read_big {W : World} {base d : Nat} {vi vc vw : Value} {s : DS} {cs : List Value} {H : List NE} {hs : List Value} (h : DvM W base d vi vc vw s.F s.C cs s.fu s.off H hs) (hd : base ≤ d) (m : Nat) (hm : s.F.length = m * 512) (hC : s.C.length + 4 ≤ 100000) (hfu : s.fu < 9223372036854775808) (k A : Int) (vd : Value) (D : List Int) (w0 : World) (hD : Rd .u8 w0 vd D) (hw0 : Below w0.heap.size w0 W) (hw1 : w0.heap.size ≤ base) (hbd : ∀ z ∈ D, 0 ≤ z ∧ z < 256) (q : Nat) (hq : H.length + 1 ≤ q) (hq2 : q ≤ 100000) (hk : k = 1) (ho : s.off = false) (hA : (m : Int) ≤ A) :
    Calls Try.prog 32 #[.pointer (some ⟨d, 0, none⟩), .agg #[.int .i64 k, .int .i64 A, vd]] W (DoPost W base d q (doS m k A D s)) := by
  subst hk
  have hbW : base ≤ W.heap.size := by have := h.blk.lt; omega
  obtain ⟨va0, vcap, rfl⟩ : ∃ a cap, vd = .slice a D.length cap := by obtain ⟨a, cap, e, _⟩ := hD; exact ⟨a, cap, e⟩
  have HS := hide (doStart (k := 1) (A := A) (vd := .slice va0 D.length vcap) h hbW (show H.length ≤ q by omega))
  obtain ⟨W2, hW2⟩ : ∃ W2, W2 = (W.alloc (.cells #[.int .i64 1, .int .i64 A, .slice va0 D.length vcap] 30)).alloc (.cells #[.int .i64 0, .slice none 0 0] 55) := ⟨_, rfl⟩
  rw [← hW2] at HS
  have HW2 := hide hW2
  have HD := hide (And.intro hD (And.intro hw0 hbd))
  have HM := hide hm
  have hdl : D.length ≤ 9223372036854775807 := by have := hD.len; unfold maxLen at this; omega
  have hn1 := h.n1
  obtain ⟨DL, hDL⟩ : ∃ DL, DL = D.length := ⟨_, rfl⟩
  rw [← hDL] at HS HW2 hdl ⊢
  have HDL := hide hDL
  rw [show doS m 1 A D s = (s, 19, []) from by unfold doS; rw [if_neg (by decide), if_neg (by decide), if_neg (by rw [ho]; decide), if_pos rfl, if_neg (by omega)]]
  clear h hD hw0 hm hbd hW2 hDL
  have b0 := (HS.out.box.cell 0).trans (show _ = some (.int .i64 1) from rfl)
  have b1 := (HS.out.box.cell 1).trans (show _ = some (.int .i64 A) from rfl)
  have b2 := (HS.out.box.cell 2).trans (show _ = some (.slice va0 DL vcap) from rfl)
  have d3 := (HS.out.dev.blk.cell 3).trans (show _ = some (.bool s.off) from rfl)
  go_enter Try.func32, Try.ntmps32
  go_upto_region 1 with fail
  rw [← HW2.out]
  rw [ho] at d3
  have HO := hide ho
  clear ho
  have hri := HS.out.dev.img
  obtain ⟨ia, ic, hie⟩ := shape_rowK hri
  subst hie
  have d0 := (HS.out.dev.blk.cell 0).trans (show _ = some (.slice ia s.F.length ic) from rfl)
  obtain ⟨FL, hFL⟩ : ∃ FL, FL = s.F.length := ⟨_, rfl⟩
  rw [← hFL] at d0 hn1
  have hdiv : (FL : Int) / 512 = (m : Int) := by have := HM.out; omega
  have HFL := hide hFL
  clear hri hFL
  have qA : 0 ≤ A := by omega
  have qB : ¬ (A < 0) := by omega
  have qC : ¬ (A < (m : Int)) := by omega
  have qD : decide ((m : Int) ≤ A) = true := by simp [hA]
  have qE : decide (A < 0) = false := by simp [qB]
  go_wp2_with (first | (refine wpList_store_row rfl 55 _ _ rfl (W.heap.size + 1) #[.int .i64 (19), .slice none 0 0] rfl rfl 55 _ HS.out.ans infoA2 rfl (oneA _ _ rfl rfl) ?_) | fail)
  refine bodyPost_ret (v := .agg #[.int .i64 (19), .slice none 0 0]) ?_ rfl (doEnd HS.out hbW (19) (.slice none 0 0) ([]) (World.ownsRow_nil _ _ _ _))
  exact results_cell_row rfl _ _ (W.heap.size + 1) 55 #[.int .i64 (19), .slice none 0 0] (0, 0) _ rfl (HS.out.ans.row _) Try.underlying55 rfl infoA2
set_option maxRecDepth 100000 in
set_option maxHeartbeats 4000000 in
theorem doM_write_neg {W : World} {base d : Nat} {vi vc vw : Value} {s : DS} {cs : List Value} {H : List NE} {hs : List Value} (h : DvM W base d vi vc vw s.F s.C cs s.fu s.off H hs) (hd : base ≤ d) (m : Nat) (hm : s.F.length = m * 512) (hC : s.C.length + 4 ≤ 100000) (hfu : s.fu < 9223372036854775808) (k A : Int) (vd : Value) (D : List Int) (w0 : World) (hD : Rd .u8 w0 vd D) (hw0 : Below w0.heap.size w0 W) (hw1 : w0.heap.size ≤ base) (hbd : ∀ z ∈ D, 0 ≤ z ∧ z < 256) (q : Nat) (hq : H.length + 1 ≤ q) (hq2 : q ≤ 100000) (hk : k = 2) (ho : s.off = false) (hA : A < 0) :
    Calls Try.prog 32 #[.pointer (some ⟨d, 0, none⟩), .agg #[.int .i64 k, .int .i64 A, vd]] W (DoPost W base d q (doS m k A D s)) := by
  subst hk
  have hbW : base ≤ W.heap.size := by have := h.blk.lt; omega
  obtain ⟨va0, vcap, rfl⟩ : ∃ a cap, vd = .slice a D.length cap := by obtain ⟨a, cap, e, _⟩ := hD; exact ⟨a, cap, e⟩
  have HS := hide (doStart (k := 2) (A := A) (vd := .slice va0 D.length vcap) h hbW (show H.length ≤ q by omega))
  obtain ⟨W2, hW2⟩ : ∃ W2, W2 = (W.alloc (.cells #[.int .i64 2, .int .i64 A, .slice va0 D.length vcap] 30)).alloc (.cells #[.int .i64 0, .slice none 0 0] 55) := ⟨_, rfl⟩
  rw [← hW2] at HS
  have HW2 := hide hW2
  have HD := hide (And.intro hD (And.intro hw0 hbd))
  have HM := hide hm
  have hdl : D.length ≤ 9223372036854775807 := by have := hD.len; unfold maxLen at this; omega
  have hn1 := h.n1
  obtain ⟨DL, hDL⟩ : ∃ DL, DL = D.length := ⟨_, rfl⟩
  rw [← hDL] at HS HW2 hdl ⊢
  have HDL := hide hDL
  rw [show doS m 2 A D s = (s, 19, []) from by unfold doS; rw [if_neg (by decide), if_neg (by decide), if_neg (by rw [ho]; decide), if_neg (by decide), if_pos rfl, if_neg (by omega)]]
  clear h hD hw0 hm hbd hW2 hDL
  have b0 := (HS.out.box.cell 0).trans (show _ = some (.int .i64 2) from rfl)
  have b1 := (HS.out.box.cell 1).trans (show _ = some (.int .i64 A) from rfl)
  have b2 := (HS.out.box.cell 2).trans (show _ = some (.slice va0 DL vcap) from rfl)
  have d3 := (HS.out.dev.blk.cell 3).trans (show _ = some (.bool s.off) from rfl)
  go_enter Try.func32, Try.ntmps32
  go_upto_region 1 with fail
  rw [← HW2.out]
  rw [ho] at d3
  have HO := hide ho
  clear ho
  have hri := HS.out.dev.img
  obtain ⟨ia, ic, hie⟩ := shape_rowK hri
  subst hie
  have d0 := (HS.out.dev.blk.cell 0).trans (show _ = some (.slice ia s.F.length ic) from rfl)
  obtain ⟨FL, hFL⟩ : ∃ FL, FL = s.F.length := ⟨_, rfl⟩
  rw [← hFL] at d0 hn1
  have hdiv : (FL : Int) / 512 = (m : Int) := by have := HM.out; omega
  have HFL := hide hFL
  clear hri hFL
  have qA : ¬ (0 ≤ A) := by omega
  go_wp2_with (first | (refine wpList_store_row rfl 55 _ _ rfl (W.heap.size + 1) #[.int .i64 (19), .slice none 0 0] rfl rfl 55 _ HS.out.ans infoA2 rfl (oneA _ _ rfl rfl) ?_) | fail)
  refine bodyPost_ret (v := .agg #[.int .i64 (19), .slice none 0 0]) ?_ rfl (doEnd HS.out hbW (19) (.slice none 0 0) ([]) (World.ownsRow_nil _ _ _ _))
  exact results_cell_row rfl _ _ (W.heap.size + 1) 55 #[.int .i64 (19), .slice none 0 0] (0, 0) _ rfl (HS.out.ans.row _) Try.underlying55 rfl infoA2
set_option maxRecDepth 100000 in
set_option maxHeartbeats 4000000 in
theorem doM_write_big {W : World} {base d : Nat} {vi vc vw : Value} {s : DS} {cs : List Value} {H : List NE} {hs : List Value} (h : DvM W base d vi vc vw s.F s.C cs s.fu s.off H hs) (hd : base ≤ d) (m : Nat) (hm : s.F.length = m * 512) (hC : s.C.length + 4 ≤ 100000) (hfu : s.fu < 9223372036854775808) (k A : Int) (vd : Value) (D : List Int) (w0 : World) (hD : Rd .u8 w0 vd D) (hw0 : Below w0.heap.size w0 W) (hw1 : w0.heap.size ≤ base) (hbd : ∀ z ∈ D, 0 ≤ z ∧ z < 256) (q : Nat) (hq : H.length + 1 ≤ q) (hq2 : q ≤ 100000) (hk : k = 2) (ho : s.off = false) (hA : (m : Int) ≤ A) :
    Calls Try.prog 32 #[.pointer (some ⟨d, 0, none⟩), .agg #[.int .i64 k, .int .i64 A, vd]] W (DoPost W base d q (doS m k A D s)) := by
  subst hk
  have hbW : base ≤ W.heap.size := by have := h.blk.lt; omega
  obtain ⟨va0, vcap, rfl⟩ : ∃ a cap, vd = .slice a D.length cap := by obtain ⟨a, cap, e, _⟩ := hD; exact ⟨a, cap, e⟩
  have HS := hide (doStart (k := 2) (A := A) (vd := .slice va0 D.length vcap) h hbW (show H.length ≤ q by omega))
  obtain ⟨W2, hW2⟩ : ∃ W2, W2 = (W.alloc (.cells #[.int .i64 2, .int .i64 A, .slice va0 D.length vcap] 30)).alloc (.cells #[.int .i64 0, .slice none 0 0] 55) := ⟨_, rfl⟩
  rw [← hW2] at HS
  have HW2 := hide hW2
  have HD := hide (And.intro hD (And.intro hw0 hbd))
  have HM := hide hm
  have hdl : D.length ≤ 9223372036854775807 := by have := hD.len; unfold maxLen at this; omega
  have hn1 := h.n1
  obtain ⟨DL, hDL⟩ : ∃ DL, DL = D.length := ⟨_, rfl⟩
  rw [← hDL] at HS HW2 hdl ⊢
  have HDL := hide hDL
  rw [show doS m 2 A D s = (s, 19, []) from by unfold doS; rw [if_neg (by decide), if_neg (by decide), if_neg (by rw [ho]; decide), if_neg (by decide), if_pos rfl, if_neg (by omega)]]
  clear h hD hw0 hm hbd hW2 hDL
  have b0 := (HS.out.box.cell 0).trans (show _ = some (.int .i64 2) from rfl)
  have b1 := (HS.out.box.cell 1).trans (show _ = some (.int .i64 A) from rfl)
  have b2 := (HS.out.box.cell 2).trans (show _ = some (.slice va0 DL vcap) from rfl)
  have d3 := (HS.out.dev.blk.cell 3).trans (show _ = some (.bool s.off) from rfl)
  go_enter Try.func32, Try.ntmps32
  go_upto_region 1 with fail
  rw [← HW2.out]
  rw [ho] at d3
  have HO := hide ho
  clear ho
  have hri := HS.out.dev.img
  obtain ⟨ia, ic, hie⟩ := shape_rowK hri
  subst hie
  have d0 := (HS.out.dev.blk.cell 0).trans (show _ = some (.slice ia s.F.length ic) from rfl)
  obtain ⟨FL, hFL⟩ : ∃ FL, FL = s.F.length := ⟨_, rfl⟩
  rw [← hFL] at d0 hn1
  have hdiv : (FL : Int) / 512 = (m : Int) := by have := HM.out; omega
  have HFL := hide hFL
  clear hri hFL
  have qA : 0 ≤ A := by omega
  have qB : ¬ (A < 0) := by omega
  have qC : ¬ (A < (m : Int)) := by omega
  have qD : decide ((m : Int) ≤ A) = true := by simp [hA]
  have qE : decide (A < 0) = false := by simp [qB]
  go_wp2_with (first | (refine wpList_store_row rfl 55 _ _ rfl (W.heap.size + 1) #[.int .i64 (19), .slice none 0 0] rfl rfl 55 _ HS.out.ans infoA2 rfl (oneA _ _ rfl rfl) ?_) | fail)
  refine bodyPost_ret (v := .agg #[.int .i64 (19), .slice none 0 0]) ?_ rfl (doEnd HS.out hbW (19) (.slice none 0 0) ([]) (World.ownsRow_nil _ _ _ _))
  exact results_cell_row rfl _ _ (W.heap.size + 1) 55 #[.int .i64 (19), .slice none 0 0] (0, 0) _ rfl (HS.out.ans.row _) Try.underlying55 rfl infoA2
set_option maxRecDepth 100000 in
set_option maxHeartbeats 4000000 in
theorem doM_kind {W : World} {base d : Nat} {vi vc vw : Value} {s : DS} {cs : List Value} {H : List NE} {hs : List Value} (h : DvM W base d vi vc vw s.F s.C cs s.fu s.off H hs) (hd : base ≤ d) (m : Nat) (hm : s.F.length = m * 512) (hC : s.C.length + 4 ≤ 100000) (hfu : s.fu < 9223372036854775808) (k A : Int) (vd : Value) (D : List Int) (w0 : World) (hD : Rd .u8 w0 vd D) (hw0 : Below w0.heap.size w0 W) (hw1 : w0.heap.size ≤ base) (hbd : ∀ z ∈ D, 0 ≤ z ∧ z < 256) (q : Nat) (hq : H.length + 1 ≤ q) (hq2 : q ≤ 100000) (hk4 : ¬ (k = 4)) (hk5 : ¬ (k = 5)) (ho : s.off = false) (hk1 : ¬ (k = 1)) (hk2 : ¬ (k = 2)) (hk3 : ¬ (k = 3)) :
    Calls Try.prog 32 #[.pointer (some ⟨d, 0, none⟩), .agg #[.int .i64 k, .int .i64 A, vd]] W (DoPost W base d q (doS m k A D s)) := by
  have hbW : base ≤ W.heap.size := by have := h.blk.lt; omega
  obtain ⟨va0, vcap, rfl⟩ : ∃ a cap, vd = .slice a D.length cap := by obtain ⟨a, cap, e, _⟩ := hD; exact ⟨a, cap, e⟩
  have HS := hide (doStart (k := k) (A := A) (vd := .slice va0 D.length vcap) h hbW (show H.length ≤ q by omega))
  obtain ⟨W2, hW2⟩ : ∃ W2, W2 = (W.alloc (.cells #[.int .i64 k, .int .i64 A, .slice va0 D.length vcap] 30)).alloc (.cells #[.int .i64 0, .slice none 0 0] 55) := ⟨_, rfl⟩
  rw [← hW2] at HS
  have HW2 := hide hW2
  have HD := hide (And.intro hD (And.intro hw0 hbd))
  have HM := hide hm
  have hdl : D.length ≤ 9223372036854775807 := by have := hD.len; unfold maxLen at this; omega
  have hn1 := h.n1
  obtain ⟨DL, hDL⟩ : ∃ DL, DL = D.length := ⟨_, rfl⟩
  rw [← hDL] at HS HW2 hdl ⊢
  have HDL := hide hDL
  rw [show doS m k A D s = (s, 22, []) from by unfold doS; rw [if_neg hk4, if_neg hk5, if_neg (by rw [ho]; decide)]; rw [if_neg hk1, if_neg hk2, if_neg hk3]]
  clear h hD hw0 hm hbd hW2 hDL
  have b0 := (HS.out.box.cell 0).trans (show _ = some (.int .i64 k) from rfl)
  have b1 := (HS.out.box.cell 1).trans (show _ = some (.int .i64 A) from rfl)
  have b2 := (HS.out.box.cell 2).trans (show _ = some (.slice va0 DL vcap) from rfl)
  have d3 := (HS.out.dev.blk.cell 3).trans (show _ = some (.bool s.off) from rfl)
  go_enter Try.func32, Try.ntmps32
  go_upto_region 1 with fail
  rw [← HW2.out]
  rw [ho] at d3
  have HO := hide ho
  clear ho
  have hri := HS.out.dev.img
  obtain ⟨ia, ic, hie⟩ := shape_rowK hri
  subst hie
  have d0 := (HS.out.dev.blk.cell 0).trans (show _ = some (.slice ia s.F.length ic) from rfl)
  obtain ⟨FL, hFL⟩ : ∃ FL, FL = s.F.length := ⟨_, rfl⟩
  rw [← hFL] at d0 hn1
  have hdiv : (FL : Int) / 512 = (m : Int) := by have := HM.out; omega
  have HFL := hide hFL
  clear hri hFL
  go_wp2_with (first | (refine wpList_store_row rfl 55 _ _ rfl (W.heap.size + 1) #[.int .i64 (22), .slice none 0 0] rfl rfl 55 _ HS.out.ans infoA2 rfl (oneA _ _ rfl rfl) ?_) | fail)
  refine bodyPost_ret (v := .agg #[.int .i64 (22), .slice none 0 0]) ?_ rfl (doEnd HS.out hbW (22) (.slice none 0 0) ([]) (World.ownsRow_nil _ _ _ _))
  exact results_cell_row rfl _ _ (W.heap.size + 1) 55 #[.int .i64 (22), .slice none 0 0] (0, 0) _ rfl (HS.out.ans.row _) Try.underlying55 rfl infoA2
set_option maxRecDepth 100000 in
set_option maxHeartbeats 4000000 in
theorem doM_barrier {W : World} {base d : Nat} {vi vc vw : Value} {s : DS} {cs : List Value} {H : List NE} {hs : List Value} (h : DvM W base d vi vc vw s.F s.C cs s.fu s.off H hs) (hd : base ≤ d) (m : Nat) (hm : s.F.length = m * 512) (hC : s.C.length + 4 ≤ 100000) (hfu : s.fu < 9223372036854775808) (k A : Int) (vd : Value) (D : List Int) (w0 : World) (hD : Rd .u8 w0 vd D) (hw0 : Below w0.heap.size w0 W) (hw1 : w0.heap.size ≤ base) (hbd : ∀ z ∈ D, 0 ≤ z ∧ z < 256) (q : Nat) (hq : H.length + 1 ≤ q) (hq2 : q ≤ 100000) (hk : k = 3) (ho : s.off = false) :
    Calls Try.prog 32 #[.pointer (some ⟨d, 0, none⟩), .agg #[.int .i64 k, .int .i64 A, vd]] W (DoPost W base d q (doS m k A D s)) := by
  subst hk
  have hbW : base ≤ W.heap.size := by have := h.blk.lt; omega
  obtain ⟨va0, vcap, rfl⟩ : ∃ a cap, vd = .slice a D.length cap := by obtain ⟨a, cap, e, _⟩ := hD; exact ⟨a, cap, e⟩
  have HS := hide (doStart (k := 3) (A := A) (vd := .slice va0 D.length vcap) h hbW (show H.length ≤ q by omega))
  obtain ⟨W2, hW2⟩ : ∃ W2, W2 = (W.alloc (.cells #[.int .i64 3, .int .i64 A, .slice va0 D.length vcap] 30)).alloc (.cells #[.int .i64 0, .slice none 0 0] 55) := ⟨_, rfl⟩
  rw [← hW2] at HS
  have HW2 := hide hW2
  have HD := hide (And.intro hD (And.intro hw0 hbd))
  have HM := hide hm
  have hdl : D.length ≤ 9223372036854775807 := by have := hD.len; unfold maxLen at this; omega
  have hn1 := h.n1
  obtain ⟨DL, hDL⟩ : ∃ DL, DL = D.length := ⟨_, rfl⟩
  rw [← hDL] at HS HW2 hdl ⊢
  have HDL := hide hDL
  rw [show doS m 3 A D s = (⟨mkW s.F s.C, [], s.fu, s.off⟩, 0, []) from by unfold doS; rw [if_neg (by decide), if_neg (by decide), if_neg (by rw [ho]; decide), if_neg (by decide), if_neg (by decide), if_pos rfl]]
  clear h hD hw0 hm hbd hW2 hDL
  have b0 := (HS.out.box.cell 0).trans (show _ = some (.int .i64 3) from rfl)
  have b1 := (HS.out.box.cell 1).trans (show _ = some (.int .i64 A) from rfl)
  have b2 := (HS.out.box.cell 2).trans (show _ = some (.slice va0 DL vcap) from rfl)
  have d3 := (HS.out.dev.blk.cell 3).trans (show _ = some (.bool s.off) from rfl)
  go_enter Try.func32, Try.ntmps32
  go_upto_region 1 with fail
  rw [← HW2.out]
  rw [ho] at d3
  have HO := hide ho
  clear ho
  have hri := HS.out.dev.img
  obtain ⟨ia, ic, hie⟩ := shape_rowK hri
  subst hie
  have d0 := (HS.out.dev.blk.cell 0).trans (show _ = some (.slice ia s.F.length ic) from rfl)
  obtain ⟨FL, hFL⟩ : ∃ FL, FL = s.F.length := ⟨_, rfl⟩
  rw [← hFL] at d0 hn1
  have hdiv : (FL : Int) / 512 = (m : Int) := by have := HM.out; omega
  have HFL := hide hFL
  clear hri hFL
  go_wp2_with fail
  refine (seenM_any HS.out.dev).mono ?_
  rintro e w1 ⟨v1, rfl, o1, l1⟩
  obtain ⟨a1, e1, rfl⟩ := shape_rowK o1
  have hml : (mkW s.F s.C).length = s.F.length := mkW_len _ _ HS.out.dev.ok
  have hlo := HS.out.low.size
  have V1 := hide (HS.out.dev.below l1)
  have H3 := hide (show DoIn W ((w1.setCell ⟨d, 0, none⟩ (.slice a1 s.F.length e1)).setCell ⟨d, 1, none⟩ (.slice none 0 0)) base d q (.slice a1 s.F.length e1) (.slice none 0 0) vw ⟨mkW s.F s.C, [], s.fu, s.off⟩ [] H hs 3 A (.slice va0 DL vcap) from HS.out.went (V1.out.settled _ _ hml (by rw [hml]; exact own_mono o1 (Nat.le_trans hbW hlo))) (((l1.mono (Nat.le_trans hbW hlo)).setCell (p := ⟨d, 0, none⟩) hd _).setCell (p := ⟨d, 1, none⟩) hd _) ((((KpY.refl _ _).below l1).setCell V1.out.blk (.inl rfl)).setCell (V1.out.blk.set 0 _) (.inl rfl)) HS.out.hq)
  obtain ⟨vcv, hvc⟩ : ∃ x, x = vc := ⟨_, rfl⟩
  have y0 := (V1.out.blk.cell 0).trans (show _ = some (.slice ia s.F.length ic) from rfl)
  have y1 := (V1.out.blk.cell 1).trans (show _ = some vc from rfl)
  have f0 := V1.out.blk.frozen 0
  have f1 := V1.out.blk.frozen 1
  rw [← HFL.out] at y0 H3 ⊢
  clear o1 l1 hml hvc
  go_wp2_with (first | (refine wpList_store_row rfl 55 _ _ rfl (W.heap.size + 1) #[.int .i64 (0), .slice none 0 0] rfl rfl 55 _ H3.out.ans infoA2 rfl (oneA _ _ rfl rfl) ?_) | fail)
  refine bodyPost_ret (v := .agg #[.int .i64 (0), .slice none 0 0]) ?_ rfl (doEnd H3.out hbW (0) (.slice none 0 0) ([]) (World.ownsRow_nil _ _ _ _))
  exact results_cell_row rfl _ _ (W.heap.size + 1) 55 #[.int .i64 (0), .slice none 0 0] (0, 0) _ rfl (H3.out.ans.row _) Try.underlying55 rfl infoA2
end Go.Proofs.Ythghibopnnjboaa
