/- The model's Do, walked: writing. -/
import Derived.Test.YthghibopnnjboaaZi24
namespace Go.Proofs.Ythghibopnnjboaa
set_option linter.unusedVariables false
set_option linter.unusedSimpArgs false
open Go.RowKit

set_option maxRecDepth 100000 in
set_option maxHeartbeats 4000000 in
theorem doM_write_len {W : World} {base d : Nat} {vi vc vw : Value} {s : DS} {cs : List Value} {H : List NE} {hs : List Value} (h : DvM W base d vi vc vw s.F s.C cs s.fu s.off H hs) (hd : base ≤ d) (m : Nat) (hm : s.F.length = m * 512) (hC : s.C.length + 4 ≤ 100000) (hfu : s.fu < 9223372036854775808) (k A : Int) (vd : Value) (D : List Int) (w0 : World) (hD : Rd .u8 w0 vd D) (hw0 : Below w0.heap.size w0 W) (hw1 : w0.heap.size ≤ base) (hbd : ∀ z ∈ D, 0 ≤ z ∧ z < 256) (q : Nat) (hq : H.length + 1 ≤ q) (hq2 : q ≤ 100000) (hk : k = 2) (ho : s.off = false) (hA : 0 ≤ A ∧ A < m) (hl : ¬ (D.length = 512)) :
    Calls Try.prog 32 #[.pointer (some ⟨d, 0, none⟩), .agg #[.int .i64 k, .int .i64 A, vd]] W (DoPost W base d q (doS m k A D s)) := by
  subst hk
  obtain ⟨a, rfl⟩ : ∃ a : Nat, A = (a : Int) := ⟨A.toNat, by omega⟩
  have hbW : base ≤ W.heap.size := by have := h.blk.lt; omega
  obtain ⟨va0, vcap, rfl⟩ : ∃ a cap, vd = .slice a D.length cap := by obtain ⟨a, cap, e, _⟩ := hD; exact ⟨a, cap, e⟩
  have HS := hide (doStart (k := 2) (A := (a : Int)) (vd := .slice va0 D.length vcap) h hbW (show H.length ≤ q by omega))
  obtain ⟨W2, hW2⟩ : ∃ W2, W2 = (W.alloc (.cells #[.int .i64 2, .int .i64 (a : Int), .slice va0 D.length vcap] 30)).alloc (.cells #[.int .i64 0, .slice none 0 0] 55) := ⟨_, rfl⟩
  rw [← hW2] at HS
  have HW2 := hide hW2
  have HD := hide (And.intro hD (And.intro hw0 hbd))
  have HM := hide hm
  have hdl : D.length ≤ 9223372036854775807 := by have := hD.len; unfold maxLen at this; omega
  have hn1 := h.n1
  obtain ⟨DL, hDL⟩ : ∃ DL, DL = D.length := ⟨_, rfl⟩
  rw [← hDL] at HS HW2 hdl ⊢
  have HDL := hide hDL
  rw [show doS m 2 (a : Int) D s = (s, 7, []) from by unfold doS; rw [if_neg (by decide), if_neg (by decide), if_neg (by rw [ho]; decide), if_neg (by decide), if_pos rfl, if_pos (by omega), if_neg hl]]
  clear h hD hw0 hm hbd hW2 hDL
  have b0 := (HS.out.box.cell 0).trans (show _ = some (.int .i64 2) from rfl)
  have b1 := (HS.out.box.cell 1).trans (show _ = some (.int .i64 (a : Int)) from rfl)
  have b2 := (HS.out.box.cell 2).trans (show _ = some (.slice va0 DL vcap) from rfl)
  have d3 := (HS.out.dev.blk.cell 3).trans (show _ = some (.bool s.off) from rfl)
  go_enter Try.func32, Try.ntmps32
  go_upto_region 1 with fail
  rw [← HW2.out]
  rw [ho] at d3
  have HO := hide ho
  clear ho
  have hri := HS.out.dev.img
  obtain ⟨ia, ic, hie⟩ := shape_rowK hri
  subst hie
  have d0 := (HS.out.dev.blk.cell 0).trans (show _ = some (.slice ia s.F.length ic) from rfl)
  obtain ⟨FL, hFL⟩ : ∃ FL, FL = s.F.length := ⟨_, rfl⟩
  rw [← hFL] at d0 hn1
  have hdiv : (FL : Int) / 512 = (m : Int) := by have := HM.out; omega
  have HFL := hide hFL
  clear hri hFL
  have qA : ¬ ((a : Int) < 0) := by omega
  have qB : ¬ ((m : Int) ≤ (a : Int)) := by omega
  have hab : a ≤ 2048 := by omega
  have qL : ¬ (DL = 512) := by rw [HDL.out]; exact hl
  have qI : ¬ ((DL : Int) = 512) := by omega
  go_wp2_with (first | (refine wpList_store_row rfl 55 _ _ rfl (W.heap.size + 1) #[.int .i64 (7), .slice none 0 0] rfl rfl 55 _ HS.out.ans infoA2 rfl (oneA _ _ rfl rfl) ?_) | fail)
  refine bodyPost_ret (v := .agg #[.int .i64 (7), .slice none 0 0]) ?_ rfl (doEnd HS.out hbW (7) (.slice none 0 0) ([]) (World.ownsRow_nil _ _ _ _))
  exact results_cell_row rfl _ _ (W.heap.size + 1) 55 #[.int .i64 (7), .slice none 0 0] (0, 0) _ rfl (HS.out.ans.row _) Try.underlying55 rfl infoA2
set_option maxRecDepth 100000 in
set_option maxHeartbeats 4000000 in
theorem doM_write_far {W : World} {base d : Nat} {vi vc vw : Value} {s : DS} {cs : List Value} {H : List NE} {hs : List Value} (h : DvM W base d vi vc vw s.F s.C cs s.fu s.off H hs) (hd : base ≤ d) (m : Nat) (hm : s.F.length = m * 512) (hC : s.C.length + 4 ≤ 100000) (hfu : s.fu < 9223372036854775808) (k A : Int) (vd : Value) (D : List Int) (w0 : World) (hD : Rd .u8 w0 vd D) (hw0 : Below w0.heap.size w0 W) (hw1 : w0.heap.size ≤ base) (hbd : ∀ z ∈ D, 0 ≤ z ∧ z < 256) (q : Nat) (hq : H.length + 1 ≤ q) (hq2 : q ≤ 100000) (hk : k = 2) (ho : s.off = false) (hA : 0 ≤ A ∧ A < m) (hl : D.length = 512) (h2 : 2 ≤ A) :
    Calls Try.prog 32 #[.pointer (some ⟨d, 0, none⟩), .agg #[.int .i64 k, .int .i64 A, vd]] W (DoPost W base d q (doS m k A D s)) := by
  subst hk
  obtain ⟨a, rfl⟩ : ∃ a : Nat, A = (a : Int) := ⟨A.toNat, by omega⟩
  have hbW : base ≤ W.heap.size := by have := h.blk.lt; omega
  obtain ⟨va0, vcap, rfl⟩ : ∃ a cap, vd = .slice a D.length cap := by obtain ⟨a, cap, e, _⟩ := hD; exact ⟨a, cap, e⟩
  have HS := hide (doStart (k := 2) (A := (a : Int)) (vd := .slice va0 D.length vcap) h hbW (show H.length ≤ q by omega))
  obtain ⟨W2, hW2⟩ : ∃ W2, W2 = (W.alloc (.cells #[.int .i64 2, .int .i64 (a : Int), .slice va0 D.length vcap] 30)).alloc (.cells #[.int .i64 0, .slice none 0 0] 55) := ⟨_, rfl⟩
  rw [← hW2] at HS
  have HW2 := hide hW2
  have HD := hide (And.intro hD (And.intro hw0 hbd))
  have HM := hide hm
  have hdl : D.length ≤ 9223372036854775807 := by have := hD.len; unfold maxLen at this; omega
  have hn1 := h.n1
  obtain ⟨DL, hDL⟩ : ∃ DL, DL = D.length := ⟨_, rfl⟩
  rw [← hDL] at HS HW2 hdl ⊢
  have HDL := hide hDL
  rw [show doS m 2 (a : Int) D s = (⟨s.F, wrC s.C a D (maJ s.fu), fuJ s.fu (maJ s.fu), ofJ s.off s.fu⟩, cdJ s.fu, []) from by unfold doS; rw [if_neg (by decide), if_neg (by decide), if_neg (by rw [ho]; decide), if_neg (by decide), if_pos rfl, if_pos (by omega), if_pos hl, Int.toNat_natCast]]
  clear h hD hw0 hm hbd hW2 hDL
  have b0 := (HS.out.box.cell 0).trans (show _ = some (.int .i64 2) from rfl)
  have b1 := (HS.out.box.cell 1).trans (show _ = some (.int .i64 (a : Int)) from rfl)
  have b2 := (HS.out.box.cell 2).trans (show _ = some (.slice va0 DL vcap) from rfl)
  have d3 := (HS.out.dev.blk.cell 3).trans (show _ = some (.bool s.off) from rfl)
  go_enter Try.func32, Try.ntmps32
  go_upto_region 1 with fail
  rw [← HW2.out]
  rw [ho] at d3
  have HO := hide ho
  clear ho
  have hri := HS.out.dev.img
  obtain ⟨ia, ic, hie⟩ := shape_rowK hri
  subst hie
  have d0 := (HS.out.dev.blk.cell 0).trans (show _ = some (.slice ia s.F.length ic) from rfl)
  obtain ⟨FL, hFL⟩ : ∃ FL, FL = s.F.length := ⟨_, rfl⟩
  rw [← hFL] at d0 hn1
  have hdiv : (FL : Int) / 512 = (m : Int) := by have := HM.out; omega
  have HFL := hide hFL
  clear hri hFL
  have qA : ¬ ((a : Int) < 0) := by omega
  have qB : ¬ ((m : Int) ≤ (a : Int)) := by omega
  have hab : a ≤ 2048 := by omega
  have hl2 := hide hl
  have hD5 : DL = 512 := by rw [HDL.out]; exact hl
  subst hD5
  have q2 : ¬ ((a : Int) < 2) := by omega
  clear hl
  have hFm : a * 512 + 512 ≤ s.F.length := by have := HM.out; omega
  go_wp2_with fail
  refine (writeM_any HS.out.dev hd a hFm (.slice va0 512 vcap) D w0 (by rw [← hl2.out]; exact HD.out.1) (HD.out.2.1.trans (HS.out.low.mono hw1)) hw1 hl2.out hC hfu).mono ?_
  rintro e w1 ⟨vc1, cs1, rfl, v1, l1, q1⟩
  have H3 := hide (show DoIn W w1 base d q (.slice ia s.F.length ic) vc1 vw ⟨s.F, wrC s.C a D (maJ s.fu), fuJ s.fu (maJ s.fu), ofJ s.off s.fu⟩ cs1 H hs 2 (a : Int) (.slice va0 512 vcap) from HS.out.went v1 l1 q1 HS.out.hq)
  clear v1 l1 q1
  generalize hcd : cdJ s.fu = cdv
  have HCd := hide hcd
  clear hcd
  go_wp2_with (first | (refine wpList_store_row rfl 55 _ _ rfl (W.heap.size + 1) #[.int .i64 (cdv), .slice none 0 0] rfl rfl 55 _ H3.out.ans infoA2 rfl (oneA _ _ rfl rfl) ?_) | fail)
  have hcd := HCd.out
  subst hcd
  refine bodyPost_ret (v := .agg #[.int .i64 (cdJ s.fu), .slice none 0 0]) ?_ rfl (doEnd H3.out hbW (cdJ s.fu) (.slice none 0 0) ([]) (World.ownsRow_nil _ _ _ _))
  exact results_cell_row rfl _ _ (W.heap.size + 1) 55 #[.int .i64 (cdJ s.fu), .slice none 0 0] (0, 0) _ rfl (H3.out.ans.row _) Try.underlying55 rfl infoA2
set_option maxRecDepth 100000 in
set_option maxHeartbeats 8000000 in
theorem doM_write_near {W : World} {base d : Nat} {vi vc vw : Value} {s : DS} {cs : List Value} {H : List NE} {hs : List Value} (h : DvM W base d vi vc vw s.F s.C cs s.fu s.off H hs) (hd : base ≤ d) (m : Nat) (hm : s.F.length = m * 512) (hC : s.C.length + 4 ≤ 100000) (hfu : s.fu < 9223372036854775808) (k A : Int) (vd : Value) (D : List Int) (w0 : World) (hD : Rd .u8 w0 vd D) (hw0 : Below w0.heap.size w0 W) (hw1 : w0.heap.size ≤ base) (hbd : ∀ z ∈ D, 0 ≤ z ∧ z < 256) (q : Nat) (hq : H.length + 1 ≤ q) (hq2 : q ≤ 100000) (hk : k = 2) (ho : s.off = false) (hA : 0 ≤ A ∧ A < m) (hl : D.length = 512) (h2 : A < 2) :
    Calls Try.prog 32 #[.pointer (some ⟨d, 0, none⟩), .agg #[.int .i64 k, .int .i64 A, vd]] W (DoPost W base d q (doS m k A D s)) := by
  obtain ⟨i1, hi1, hy0, hy1, hy2⟩ := info_parts infoU8
  obtain ⟨i0, hi, hz0, hz1, hz2⟩ := info_parts infoB1
  subst hk
  obtain ⟨a, rfl⟩ : ∃ a : Nat, A = (a : Int) := ⟨A.toNat, by omega⟩
  have hbW : base ≤ W.heap.size := by have := h.blk.lt; omega
  obtain ⟨va0, vcap, rfl⟩ : ∃ a cap, vd = .slice a D.length cap := by obtain ⟨a, cap, e, _⟩ := hD; exact ⟨a, cap, e⟩
  have HS := hide (doStart (k := 2) (A := (a : Int)) (vd := .slice va0 D.length vcap) h hbW (show H.length ≤ q by omega))
  obtain ⟨W2, hW2⟩ : ∃ W2, W2 = (W.alloc (.cells #[.int .i64 2, .int .i64 (a : Int), .slice va0 D.length vcap] 30)).alloc (.cells #[.int .i64 0, .slice none 0 0] 55) := ⟨_, rfl⟩
  rw [← hW2] at HS
  have HW2 := hide hW2
  have HD := hide (And.intro hD (And.intro hw0 hbd))
  have HM := hide hm
  have hdl : D.length ≤ 9223372036854775807 := by have := hD.len; unfold maxLen at this; omega
  have hn1 := h.n1
  obtain ⟨DL, hDL⟩ : ∃ DL, DL = D.length := ⟨_, rfl⟩
  rw [← hDL] at HS HW2 hdl ⊢
  have HDL := hide hDL
  rw [show doS m 2 (a : Int) D s = (⟨s.F, wrC s.C a D (maJ s.fu), fuJ s.fu (maJ s.fu), ofJ s.off s.fu⟩, cdJ s.fu, []) from by unfold doS; rw [if_neg (by decide), if_neg (by decide), if_neg (by rw [ho]; decide), if_neg (by decide), if_pos rfl, if_pos (by omega), if_pos hl, Int.toNat_natCast]]
  clear h hD hw0 hm hbd hW2 hDL
  have b0 := (HS.out.box.cell 0).trans (show _ = some (.int .i64 2) from rfl)
  have b1 := (HS.out.box.cell 1).trans (show _ = some (.int .i64 (a : Int)) from rfl)
  have b2 := (HS.out.box.cell 2).trans (show _ = some (.slice va0 DL vcap) from rfl)
  have d3 := (HS.out.dev.blk.cell 3).trans (show _ = some (.bool s.off) from rfl)
  go_enter Try.func32, Try.ntmps32
  go_upto_region 1 with fail
  rw [← HW2.out]
  rw [ho] at d3
  have HO := hide ho
  clear ho
  have hri := HS.out.dev.img
  obtain ⟨ia, ic, hie⟩ := shape_rowK hri
  subst hie
  have d0 := (HS.out.dev.blk.cell 0).trans (show _ = some (.slice ia s.F.length ic) from rfl)
  obtain ⟨FL, hFL⟩ : ∃ FL, FL = s.F.length := ⟨_, rfl⟩
  rw [← hFL] at d0 hn1
  have hdiv : (FL : Int) / 512 = (m : Int) := by have := HM.out; omega
  have HFL := hide hFL
  clear hri hFL
  have qA : ¬ ((a : Int) < 0) := by omega
  have qB : ¬ ((m : Int) ≤ (a : Int)) := by omega
  have hab : a ≤ 2048 := by omega
  have hl2 := hide hl
  have hD5 : DL = 512 := by rw [HDL.out]; exact hl
  subst hD5
  have q2 : (a : Int) < 2 := by omega
  clear hl
  have hrw := HS.out.dev.who.row
  obtain ⟨wa, wc, hwe⟩ := shape_rowK hrw
  subst hwe
  obtain ⟨HL, hHL⟩ : ∃ HL, HL = H.length := ⟨_, rfl⟩
  have hHb : HL ≤ 99999 := by omega
  rw [← hHL] at HS
  have HHL := hide hHL
  clear hrw hHL
  obtain ⟨wd, hwd⟩ : ∃ wd, wd = W2.drew := ⟨_, rfl⟩
  have bdr : Below W2.heap.size W2 wd := by rw [hwd]; exact (Below.refl _ _).drew
  have HSd := hide (HS.out.belowK bdr (Nat.le_trans hbW HS.out.low.size))
  have HWd := hide hwd
  clear hwd bdr
  have hbd2 : base ≤ wd.heap.size := Nat.le_trans hbW HSd.out.low.size
  have S0 := hide (And.intro ((HSd.out.dev.blk.cell 4).trans (show _ = some (.slice wa HL wc) from rfl)) ((HSd.out.box.cell 2).trans (show _ = some (.slice va0 512 vcap) from rfl)))
  have DA := hide (HSd.out.belowK ((Below.refl _ _).alloc (Nat.le_refl _) (.cells #[] 5)) hbd2)
  have S1 := hide (And.intro ((DA.out.dev.blk.cell 4).trans (show _ = some (.slice wa HL wc) from rfl)) ((DA.out.box.cell 2).trans (show _ = some (.slice va0 512 vcap) from rfl)))
  have RP := hide (show 0 < 512 → ∃ bd off, va0 = some ⟨bd, off, none⟩ ∧ bd < wd.heap.size ∧ ∀ (j : Nat) (u : Value), (D.map (Value.int .u8))[j]? = some u → wd.cell? ⟨bd, off + j, none⟩ = some u by
    have h1 : Rd .u8 wd (.slice va0 D.length vcap) D := HD.out.1.below (HD.out.2.1.trans (HSd.out.low.mono hw1))
    have h2 := h1.srcM
    rw [hl2.out] at h2
    exact h2)
  go_upto_region 21 with fail
  refine wp_region_noPanic ?_
  refine wp_region_heldL (fun w' => w'.cell? ⟨d, 4, none⟩ = some (.slice wa HL wc) ∧ w'.cell? ⟨W.heap.size, 2, none⟩ = some (.slice va0 512 vcap)) 13 (by kernel_rfl) ?_
  rw [← HWd.out]
  refine wpAnyL_take (i := 0) (oi := _) (v := .pointer (some ⟨d, 0, none⟩)) rfl (by kernel_rfl) (by kernel_rfl) (by kernel_rfl) (by kernel_rfl) (fun _ _ _ h => h) (Or.inl ⟨by rfl, fun w' hw' => by go_simp⟩) S0.out ?_
  try simp only [Act.put, List.getElem_toArray, List.getElem_cons_zero, List.getElem_cons_succ, List.setIfInBounds_toArray, List.set_cons_zero, List.set_cons_succ]
  refine wpAnyL_take (i := 1) (oi := _) (v := .pointer (some ⟨d, 0, none⟩)) rfl (by kernel_rfl) (by kernel_rfl) (by kernel_rfl) (by kernel_rfl) (fun _ _ _ h => h) (Or.inl ⟨by rfl, fun w' hw' => by go_simp⟩) S0.out ?_
  try simp only [Act.put, List.getElem_toArray, List.getElem_cons_zero, List.getElem_cons_succ, List.setIfInBounds_toArray, List.set_cons_zero, List.set_cons_succ]
  refine wpAnyL_take (i := 2) (oi := _) (v := .pointer (some ⟨d, 0, none⟩)) rfl (by kernel_rfl) (by kernel_rfl) (by kernel_rfl) (by kernel_rfl) (fun _ _ _ h => h) (Or.inl ⟨by rfl, fun w' hw' => by go_simp⟩) S0.out ?_
  try simp only [Act.put, List.getElem_toArray, List.getElem_cons_zero, List.getElem_cons_succ, List.setIfInBounds_toArray, List.set_cons_zero, List.set_cons_succ]
  refine wpAnyL_take (i := 3) (oi := _) (v := .pointer (some ⟨d, 4, none⟩)) rfl (by kernel_rfl) (by kernel_rfl) (by kernel_rfl) (by kernel_rfl) (fun _ _ _ h => h) (Or.inl ⟨by rfl, fun w' hw' => by go_simp⟩) S0.out ?_
  try simp only [Act.put, List.getElem_toArray, List.getElem_cons_zero, List.getElem_cons_succ, List.setIfInBounds_toArray, List.set_cons_zero, List.set_cons_succ]
  refine wpAnyL_take (i := 4) (oi := _) (v := .slice wa HL wc) rfl (by kernel_rfl) (by kernel_rfl) (by kernel_rfl) (by kernel_rfl) (fun _ _ _ h => h) (Or.inl ⟨by rfl, fun w' hw' => by have hw2 : w'.cell? ⟨d, 4, none⟩ = some (.slice wa HL wc) := hw'.1; go_simp⟩) S0.out ?_
  try simp only [Act.put, List.getElem_toArray, List.getElem_cons_zero, List.getElem_cons_succ, List.setIfInBounds_toArray, List.set_cons_zero, List.set_cons_succ]
  refine wpAnyL_take (i := 6) (oi := _) (v := .pointer (some ⟨W.heap.size, 2, none⟩)) rfl (by kernel_rfl) (by kernel_rfl) (by kernel_rfl) (by kernel_rfl) (fun _ _ _ h => h) (Or.inl ⟨by rfl, fun w' hw' => by go_simp⟩) S0.out ?_
  try simp only [Act.put, List.getElem_toArray, List.getElem_cons_zero, List.getElem_cons_succ, List.setIfInBounds_toArray, List.set_cons_zero, List.set_cons_succ]
  refine wpAnyL_take (i := 7) (oi := _) (v := .slice va0 512 vcap) rfl (by kernel_rfl) (by kernel_rfl) (by kernel_rfl) (by kernel_rfl) (fun _ _ _ h => h) (Or.inl ⟨by rfl, fun w' hw' => by have hw2 : w'.cell? ⟨W.heap.size, 2, none⟩ = some (.slice va0 512 vcap) := hw'.2; go_simp⟩) S0.out ?_
  try simp only [Act.put, List.getElem_toArray, List.getElem_cons_zero, List.getElem_cons_succ, List.setIfInBounds_toArray, List.set_cons_zero, List.set_cons_succ]
  refine wpAnyL_one (i := 5) (by kernel_rfl) rfl (fun K hK => ?_)
  go_simp
  refine hK.out _ _ (fun _ => S1.out) ?_
  clear hK K
  try simp only [Act.put, List.getElem_toArray, List.getElem_cons_zero, List.getElem_cons_succ, List.setIfInBounds_toArray, List.set_cons_zero, List.set_cons_succ]
  refine wpAnyL_one (i := 8) (by kernel_rfl) rfl (fun K hK => ?_)
  rw [if_pos (by rfl)]
  refine wp_append_copyK wd (.tmp 78) (.tmp 80) 22 rfl 5 i1 (.int .u8 0) 1 1 Try.underlying22 hi1 hy0 hy1 hy2 rfl (by decide) rfl va0 512 vcap (D.map (Value.int .u8)) rfl (by rw [List.length_map, hl2.out]) RP.out (ints_oneCell _ _) (by unfold maxLen; omega) (by omega) ?_
  intro u2 w2 o2 b2
  obtain ⟨ua, uc, rfl⟩ := shape_rowK o2
  have H2 := hide (And.intro o2 b2)
  have D2 := hide (HSd.out.belowK b2 hbd2)
  clear o2 b2
  have S2 := hide (And.intro ((D2.out.dev.blk.cell 4).trans (show _ = some (.slice wa HL wc) from rfl)) ((D2.out.box.cell 2).trans (show _ = some (.slice va0 512 vcap) from rfl)))
  have hs2 := H2.out.2.size
  refine hK.out _ _ (fun _ => S2.out) ?_
  clear hK K
  try simp only [Act.put, List.getElem_toArray, List.getElem_cons_zero, List.getElem_cons_succ, List.setIfInBounds_toArray, List.set_cons_zero, List.set_cons_succ]
  refine wpAnyL_one (i := 9) (by kernel_rfl) rfl (fun K hK => ?_)
  go_simp
  have D3 := hide (D2.out.belowK ((Below.refl _ _).alloc (Nat.le_refl _) (.cells #[.slice ua 512 uc] 22)) (Nat.le_trans hbd2 hs2))
  have B3 := hide (show Below w2.heap.size w2 (w2.alloc (.cells #[.slice ua 512 uc] 22)) from (Below.refl _ _).alloc (Nat.le_refl _) _)
  have S3 := hide (And.intro ((D3.out.dev.blk.cell 4).trans (show _ = some (.slice wa HL wc) from rfl)) ((D3.out.box.cell 2).trans (show _ = some (.slice va0 512 vcap) from rfl)))
  have R3 := hide (show (w2.alloc (.cells #[.slice ua 512 uc] 22)).ownsRow base 22 1 (.slice wa HL wc) HL (cellsN hs H) from by have := D3.out.dev.who.row; rw [← HHL.out] at this; exact this)
  refine hK.out _ _ (fun _ => S3.out) ?_
  clear hK K
  try simp only [Act.put, List.getElem_toArray, List.getElem_cons_zero, List.getElem_cons_succ, List.setIfInBounds_toArray, List.set_cons_zero, List.set_cons_succ]
  refine wpAnyL_one (i := 10) (by kernel_rfl) rfl (fun K hK => ?_)
  rw [if_pos (by rfl)]
  refine wp_append_own _ (.tmp 77) (.tmp 82) 78 rfl base 22 i0 (.slice none 0 0) 1 24 Try.underlying78 hi hz0 hz1 hz2 rfl (by decide) (.slice wa HL wc) HL _ rfl R3.out ⟨w2.heap.size, 0, none⟩ 1 1 [.slice ua 512 uc] rfl rfl (cells_newK w2 #[.slice ua 512 uc] 22) (by intro y hy; simp at hy; subst hy; rfl) (by unfold maxLen; omega) (by omega) (by simp; omega) ?_
  intro v4 w4 o4 g4 _
  obtain ⟨va4, vc4, rfl⟩ := shape_rowK o4
  have F4 := hide (D3.out.dev.pushW D (.slice ua 512 uc) (.slice va4 (HL + 1) vc4) (by rw [hl2.out]; exact own_below (own_mono H2.out.1 hbd2) B3.out) (fun i x b hx hb e => by have h1 := (H2.out.1.lt b e).1; have h2 := (HSd.out.dev.who.ltK hx hb).2; omega) (by rw [← HHL.out]; exact o4) g4)
  have L4 := hide (show Below base (w2.alloc (.cells #[.slice ua 512 uc] 22)) w4 from (Below.refl _ _).grown g4 (Nat.le_trans hbd2 (Nat.le_trans hs2 (by simp))) (fun r e => (R3.out.lt r e).1))
  have S4 := hide (And.intro ((F4.out.2.2.cell 4).trans (show _ = some (.slice wa HL wc) from rfl)) (((F4.out.2.1.blk D3.out.box (by decide)).cell 2).trans (show _ = some (.slice va0 512 vcap) from rfl)))
  have D4 := hide (D3.out.went (s' := s) F4.out.1 (L4.out.setCell (p := ⟨d, 4, none⟩) hd _) (((KpY.refl _ _).ownrow R3.out (.inr (.inr rfl)) g4).setCell F4.out.2.2 (.inl rfl)) (by rw [List.length_append, List.length_singleton]; omega))
  have f4 := F4.out.2.2.frozen 4
  have y4 : w4.cell? ⟨d, 4, none⟩ = some (.slice wa HL wc) := S4.out.1
  clear o4 g4
  refine hK.out _ _ (fun _ => S4.out) ?_
  clear hK K
  try simp only [Act.put, List.getElem_toArray, List.getElem_cons_zero, List.getElem_cons_succ, List.setIfInBounds_toArray, List.set_cons_zero, List.set_cons_succ]
  refine wpAnyL_one (i := 11) (by kernel_rfl) rfl (fun K hK => ?_)
  go_simp
  refine hK.out _ _ (fun _ => S4.out) ?_
  clear hK K
  try simp only [Act.put, List.getElem_toArray, List.getElem_cons_zero, List.getElem_cons_succ, List.setIfInBounds_toArray, List.set_cons_zero, List.set_cons_succ]
  refine wpAnyL_take (i := 12) (oi := _) (v := .pointer (some ⟨d, 4, none⟩)) rfl (by kernel_rfl) (by kernel_rfl) (by kernel_rfl) (by kernel_rfl) (fun _ _ _ h => h) (Or.inl ⟨by rfl, fun w' hw' => by go_simp⟩) S4.out ?_
  try simp only [Act.put, List.getElem_toArray, List.getElem_cons_zero, List.getElem_cons_succ, List.setIfInBounds_toArray, List.set_cons_zero, List.set_cons_succ]
  refine wpAnyL_one (i := 13) (by kernel_rfl) rfl (fun K hK => ?_)
  go_simp
  refine hK.out _ _ (fun h => absurd rfl h) ?_
  clear hK K y4 f4
  try simp only [Act.put, List.getElem_toArray, List.getElem_cons_zero, List.getElem_cons_succ, List.setIfInBounds_toArray, List.set_cons_zero, List.set_cons_succ]
  refine wpAnyL_done (by kernel_rfl) (NoPanic.normal ?_) _
  obtain ⟨w9, hw9⟩ : ∃ w9, w9 = w4.setCell ⟨d, 4, none⟩ (.slice va4 (HL + 1) vc4) := ⟨_, rfl⟩
  rw [← hw9] at D4 ⊢
  clear hw9 F4 L4 S4 S0 S1 S2 S3 R3 B3 DA D2 D3 H2 RP HSd HS b0 b1 b2 d3 d0
  have b0 := (D4.out.box.cell 0).trans (show _ = some (.int .i64 2) from rfl)
  have b1 := (D4.out.box.cell 1).trans (show _ = some (.int .i64 (a : Int)) from rfl)
  have b2 := (D4.out.box.cell 2).trans (show _ = some (.slice va0 512 vcap) from rfl)
  have hFm : a * 512 + 512 ≤ s.F.length := by have := HM.out; omega
  go_wp2_with fail
  refine (writeM_any D4.out.dev hd a hFm (.slice va0 512 vcap) D w0 (by rw [← hl2.out]; exact HD.out.1) (HD.out.2.1.trans (D4.out.low.mono hw1)) hw1 hl2.out hC hfu).mono ?_
  rintro e w1 ⟨vc1, cs1, rfl, v1, l1, q1⟩
  have H3 := hide (show DoIn W w1 base d q (.slice ia s.F.length ic) vc1 (.slice va4 (HL + 1) vc4) ⟨s.F, wrC s.C a D (maJ s.fu), fuJ s.fu (maJ s.fu), ofJ s.off s.fu⟩ cs1 (H ++ [([], D)]) (hs ++ [.slice ua 512 uc]) 2 (a : Int) (.slice va0 512 vcap) from D4.out.went v1 l1 q1 D4.out.hq)
  clear v1 l1 q1
  generalize hcd : cdJ s.fu = cdv
  have HCd := hide hcd
  clear hcd
  go_wp2_with (first | (refine wpList_store_row rfl 55 _ _ rfl (W.heap.size + 1) #[.int .i64 (cdv), .slice none 0 0] rfl rfl 55 _ H3.out.ans infoA2 rfl (oneA _ _ rfl rfl) ?_) | fail)
  have hcd := HCd.out
  subst hcd
  refine bodyPost_ret (v := .agg #[.int .i64 (cdJ s.fu), .slice none 0 0]) ?_ rfl (doEnd H3.out hbW (cdJ s.fu) (.slice none 0 0) ([]) (World.ownsRow_nil _ _ _ _))
  exact results_cell_row rfl _ _ (W.heap.size + 1) 55 #[.int .i64 (cdJ s.fu), .slice none 0 0] (0, 0) _ rfl (H3.out.ans.row _) Try.underlying55 rfl infoA2
set_option maxRecDepth 100000 in
theorem doM_any {W : World} {base d : Nat} {vi vc vw : Value} {s : DS} {cs : List Value} {H : List NE} {hs : List Value} (h : DvM W base d vi vc vw s.F s.C cs s.fu s.off H hs) (hd : base ≤ d) (m : Nat) (hm : s.F.length = m * 512) (hC : s.C.length + 4 ≤ 100000) (hfu : s.fu < 9223372036854775808) (k A : Int) (vd : Value) (D : List Int) (w0 : World) (hD : Rd .u8 w0 vd D) (hw0 : Below w0.heap.size w0 W) (hw1 : w0.heap.size ≤ base) (hbd : ∀ z ∈ D, 0 ≤ z ∧ z < 256) (q : Nat) (hq : H.length + 1 ≤ q) (hq2 : q ≤ 100000) :
    Calls Try.prog 32 #[.pointer (some ⟨d, 0, none⟩), .agg #[.int .i64 k, .int .i64 A, vd]] W (DoPost W base d q (doS m k A D s)) := by
  by_cases hk4 : k = 4
  · exact doM_fuse h hd m hm hC hfu k A vd D w0 hD hw0 hw1 hbd q hq hq2 hk4
  by_cases hk5 : k = 5
  · exact doM_crash h hd m hm hC hfu k A vd D w0 hD hw0 hw1 hbd q hq hq2 hk5
  cases ho : s.off with
  | true => exact doM_off h hd m hm hC hfu k A vd D w0 hD hw0 hw1 hbd q hq hq2 hk4 hk5 ho
  | false =>
    by_cases hk1 : k = 1
    · by_cases h1 : A < 0
      · exact doM_read_neg h hd m hm hC hfu k A vd D w0 hD hw0 hw1 hbd q hq hq2 hk1 ho h1
      by_cases h2 : (m : Int) ≤ A
      · exact doM_read_big h hd m hm hC hfu k A vd D w0 hD hw0 hw1 hbd q hq hq2 hk1 ho h2
      exact doM_read h hd m hm hC hfu k A vd D w0 hD hw0 hw1 hbd q hq hq2 hk1 ho ⟨by omega, by omega⟩
    by_cases hk2 : k = 2
    · by_cases h1 : A < 0
      · exact doM_write_neg h hd m hm hC hfu k A vd D w0 hD hw0 hw1 hbd q hq hq2 hk2 ho h1
      by_cases h2 : (m : Int) ≤ A
      · exact doM_write_big h hd m hm hC hfu k A vd D w0 hD hw0 hw1 hbd q hq hq2 hk2 ho h2
      by_cases hl : D.length = 512
      · by_cases h3 : A < 2
        · exact doM_write_near h hd m hm hC hfu k A vd D w0 hD hw0 hw1 hbd q hq hq2 hk2 ho ⟨by omega, by omega⟩ hl h3
        · exact doM_write_far h hd m hm hC hfu k A vd D w0 hD hw0 hw1 hbd q hq hq2 hk2 ho ⟨by omega, by omega⟩ hl (by omega)
      · exact doM_write_len h hd m hm hC hfu k A vd D w0 hD hw0 hw1 hbd q hq hq2 hk2 ho ⟨by omega, by omega⟩ hl
    by_cases hk3 : k = 3
    · exact doM_barrier h hd m hm hC hfu k A vd D w0 hD hw0 hw1 hbd q hq hq2 hk3 ho
    exact doM_kind h hd m hm hC hfu k A vd D w0 hD hw0 hw1 hbd q hq hq2 hk4 hk5 ho hk1 hk2 hk3
end Go.Proofs.Ythghibopnnjboaa
