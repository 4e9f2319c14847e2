/- The program's move: a place is given. -/
import Derived.Test.YtlimollpocagiaaGreatDoorZr25
import Derived.Test.YtlimollpocagiaaGreatDoorZr17
namespace Go.Proofs.YtlimollpocagiaaGreatDoor
open List (getElem_toArray getElem_cons_zero getElem_cons_succ setIfInBounds_toArray set_cons_zero set_cons_succ)
set_option linter.unusedVariables false
set_option linter.unusedSimpArgs false
open Go.RowKit

def mvL (LL : Nat → List Int) (l r p : Nat) (o : Int) : Nat → List Int := upd (upd LL (5 + l) (setN (LL (5 + l)) r (p : Int))) 1 (clrB ((LL 1).set p 1) o)
theorem Fl.lt {W : World} {base b : Nat} {C : Array Value} {R : Nat → Value} {LL : Nat → List Int} {vo : Value} {od : List (Nat × Nat)} {cu : Int} (h : Fl W base b C R LL vo od cu) {k : Nat} (hk : ownF b R vo k) : k < W.heap.size := by
  rcases hk with rfl | ⟨j, hj, e⟩ | e
  · exact h.box.lt
  · exact ((h.row j hj).lt k e).2
  · exact (h.orow.lt k e).2
theorem infoSpot : (Tryz.prog.info? 123).map (fun i => (i.zero, i.size, i.bytes)) = some (some (.agg #[.int .i64 0, .int .i64 0]), 2, 16) := by kernel_rfl
theorem cells_newF (w : World) (C : Array Value) (t : TypeId) : ∀ j u, C.toList[j]? = some u → (w.alloc (.cells C t)).cell? (Addr.add ⟨w.heap.size, 0, none⟩ j) = some u := by
  intro j u h
  rw [Addr.add_mid, Nat.zero_add, (Blk.new w C t).cell j]
  simpa using h
theorem upd_upd {α : Type} (f : Nat → α) (i : Nat) (x y : α) : upd (upd f i x) i y = upd f i y := by
  funext k; unfold upd; split <;> rfl
theorem Fl.wrow {W : World} {base b : Nat} {C : Array Value} {R : Nat → Value} {LL : Nat → List Int} {vo : Value} {od : List (Nat × Nat)} {cu : Int} (h : Fl W base b C R LL vo od cu) (hn : 0 < (LL 1).length) : ∃ g c, R 1 = .slice (some ⟨g, 0, none⟩) (LL 1).length c ∧ (R 1).ownBlock = some g ∧ W.cell? ⟨b, 1, none⟩ = some (.slice (some ⟨g, 0, none⟩) (LL 1).length c) ∧ ∀ k, k < (LL 1).length → W.cell? ⟨g, k, none⟩ = some (.int .i64 ((LL 1).getD k 0)) ∧ W.frozen? ⟨g, k, none⟩ = false := by
  have hr := h.row 1 (by omega)
  obtain ⟨a, c, e, e2, hrd⟩ := h.rd 1 (by omega)
  rcases hr.2 with ⟨e0, h0⟩ | ⟨g, cap, cur, e0, hb, hg, h1, h2, h3, h4⟩
  · omega
  · rw [e0] at e
    injection e with e5 e6 e7
    subst e5
    subst e7
    refine ⟨g, cap, e0, by rw [e0]; rfl, (h.box.cell 1).trans e2, fun k hk => ⟨?_, ?_⟩⟩
    · have := hr.cells (g := g) (by rw [e0]; rfl) k (.int .i64 ((LL 1).getD k 0)) (by simp [List.getD, hk])
      rw [Addr.add_mid, Nat.zero_add] at this
      exact this
    · have hB : Blk W g cur 3 := hg
      exact hB.frozen k
set_option maxRecDepth 100000 in
set_option maxHeartbeats 4000000 in
theorem move_any (base b l r p : Nat) (C : Array Value) (R : Nat → Value) (LL : Nat → List Int) (vo : Value) (od : List (Nat × Nat)) (cu : Int) (w : World) (h : Fl w base b C R LL vo od cu) (hl : l < 2) (hr : r ≤ 700) (n : Nat) (hnn : n = (LL 1).length) (hp : 2 ≤ p ∧ p < n) (hn : n ≤ 2048) (hL : (LL (5 + l)).length ≤ 100001) (hod : od.length ≤ 1000) (hbs : base ≤ w.heap.size) (o : Int) (ho : o = (LL (2 + l)).getD r 0) (ho2 : 0 ≤ o ∧ o < n) (hwr : ∀ z ∈ LL 1, 0 ≤ z ∧ z < 4294967296) :
    Calls Tryz.prog 100 #[.pointer (some ⟨b, 0, none⟩), spotV l r, .int .i64 (p : Int)] w fun e w' => e = .returned (.tuple #[]) ∧ ∃ C' R' vo', Fl w' base b C' R' (mvL LL l r p o) vo' (od ++ [(l, r)]) (behI n p) ∧ KpF w w' b R vo R' vo' := by
  obtain ⟨i0, hi0, hz0, hz1, hz2⟩ := info_parts infoSpot
  obtain ⟨W1, hW1⟩ : ∃ W1, W1 = w.alloc (.cells #[.int .i64 (l : Int), .int .i64 (r : Int)] 123) := ⟨_, rfl⟩
  have B1 := hide (show Below w.heap.size w W1 from by rw [hW1]; exact (Below.refl _ _).alloc (Nat.le_refl _) _)
  have K1 := hide (show Blk W1 w.heap.size #[.int .i64 (l : Int), .int .i64 (r : Int)] 123 from by rw [hW1]; exact Blk.new w _ _)
  have HW := hide hW1
  have HF := hide (h.below B1.out)
  have HNo := hide (show ¬ ownF b R vo w.heap.size from fun ho => by have := h.lt ho; omega)
  have HP0 := hide (KpF.of_below b R vo B1.out)
  have HH := hide (And.intro hl (And.intro hr (And.intro hL (And.intro hod (And.intro hnn (And.intro ho hwr))))))
  have hbs1 : base ≤ W1.heap.size := Nat.le_trans hbs B1.out.size
  have HBx := hide (show ∀ w' R' vo', KpF W1 w' b R vo R' vo' → Blk w' w.heap.size #[.int .i64 (l : Int), .int .i64 (r : Int)] 123 from fun w' R' vo' k => (k.block _ K1.out.lt HNo.out).trans K1.out)
  clear hW1 h hl hr hL hod hnn ho hwr
  go_enter Tryz.func100, Tryz.ntmps100
  unfold spotV
  go_upto_region 1 with fail
  rw [← HW.out]
  refine wp_region_noPanic ?_
  refine wp_region_held_drew (S := fun w' => Blk w' w.heap.size #[.int .i64 (l : Int), .int .i64 (r : Int)] 123) (by kernel_rfl) (show Blk W1.drew w.heap.size #[.int .i64 (l : Int), .int .i64 (r : Int)] 123 from K1.out) (fun hH => ?_)
  refine wpAnyH_take (i := 0) (oi := _) (v := .pointer (some ⟨b, 0, none⟩)) rfl (by kernel_rfl) (by kernel_rfl) (by kernel_rfl) (fun _ _ _ h => h) (Or.inl ⟨by rfl, fun w' hw' => by go_simp⟩) hH ?_
  try simp only [Act.put, getElem_toArray, getElem_cons_zero, getElem_cons_succ, setIfInBounds_toArray, set_cons_zero, set_cons_succ]
  refine wpAnyH_take (i := 1) (oi := _) (v := .pointer (some ⟨b, 0, none⟩)) rfl (by kernel_rfl) (by kernel_rfl) (by kernel_rfl) (fun _ _ _ h => h) (Or.inl ⟨by rfl, fun w' hw' => by go_simp⟩) hH ?_
  try simp only [Act.put, getElem_toArray, getElem_cons_zero, getElem_cons_succ, setIfInBounds_toArray, set_cons_zero, set_cons_succ]
  refine wpAnyH_take (i := 2) (oi := _) (v := .pointer (some ⟨b, 5, none⟩)) rfl (by kernel_rfl) (by kernel_rfl) (by kernel_rfl) (fun _ _ _ h => h) (Or.inl ⟨by rfl, fun w' hw' => by go_simp⟩) hH ?_
  try simp only [Act.put, getElem_toArray, getElem_cons_zero, getElem_cons_succ, setIfInBounds_toArray, set_cons_zero, set_cons_succ]
  refine wpAnyH_take (i := 3) (oi := _) (v := .agg #[.int .i64 (l : Int), .int .i64 (r : Int)]) rfl (by kernel_rfl) (by kernel_rfl) (by kernel_rfl) (fun _ _ _ h => h) (yieldsIf_load_mid (by rfl) 123 _ rfl w.heap.size 0 rfl [.int .i64 (l : Int), .int .i64 (r : Int)] _ (fun w' h => rangeSp h) Tryz.underlying123 rfl infoSp) hH ?_
  try simp only [Act.put, getElem_toArray, getElem_cons_zero, getElem_cons_succ, setIfInBounds_toArray, set_cons_zero, set_cons_succ]
  refine wpAnyH_take (i := 4) (oi := _) (v := .int .i64 (p : Int)) rfl (by kernel_rfl) (by kernel_rfl) (by kernel_rfl) (fun _ _ _ h => h) (Or.inl ⟨by rfl, fun w' hw' => by go_simp⟩) hH ?_
  try simp only [Act.put, getElem_toArray, getElem_cons_zero, getElem_cons_succ, setIfInBounds_toArray, set_cons_zero, set_cons_succ]
  refine wpAnyH_ready (rs := [5]) (by kernel_rfl) (by simp) ?_
  refine AllReadyH.cons (o := _) rfl ?_ AllReadyH.nil
  intro K hK
  go_simp
  refine (setS2_any b 5 l r C 113 _ _ (p : Int) base W1.drew (HF.out.giv.below (Below.refl _ _).drew) (by have := HH.out.1; omega) (by have := HH.out.2.1; omega) HH.out.2.2.1 (by decide) hbs1).mono ?_
  rintro e w2 ⟨rfl, sw, h1, h2, h3⟩
  obtain ⟨f2, k2⟩ := Fl.setG HF.out (by have := HH.out.1; omega) h1 ⟨h2.os, h2.tape, h2.output, h2.size, h2.block⟩ h3
  have F2 := hide f2
  have P2 := hide k2
  refine hK.out _ _ (HBx.out _ _ _ P2.out) (fun hH => ?_)
  clear hK K h1 h2 h3 f2 k2
  try simp only [Act.put, getElem_toArray, getElem_cons_zero, getElem_cons_succ, setIfInBounds_toArray, set_cons_zero, set_cons_succ]
  refine wpAnyH_done (by kernel_rfl) (NoPanic.normal ?_) _
  clear hH
  have X2 := hide (HBx.out _ _ _ P2.out)
  generalize upd R (5 + l) sw = R2 at F2 P2
  generalize C.setIfInBounds (5 + l) sw = C2 at F2
  obtain ⟨oa, oc, hoa⟩ := own_shape F2.out.orow
  subst hoa
  obtain ⟨no, hno⟩ : ∃ no, no = od.length := ⟨_, rfl⟩
  have hno2 : no ≤ 1000 := by rw [hno]; exact HH.out.2.2.2.1
  have HNO := hide hno
  rw [← hno] at F2 P2 HNo HP0 HBx
  clear hno
  have HC8 := hide (show ∀ w', Blk w' b C2 113 → w'.cell? ⟨b, 8, none⟩ = some (.slice oa no oc) from fun w' hw => (hw.cell 8).trans F2.out.ord)
  have hs2 : base ≤ w2.heap.size := Nat.le_trans hbs1 P2.out.size
  clear sw
  go_upto_region 2 with fail
  refine wp_region_noPanic ?_
  refine wp_region_heldM (fun w' => Blk w' w.heap.size #[.int .i64 (l : Int), .int .i64 (r : Int)] 123 ∧ Blk w' b C2 113) 8 (by kernel_rfl) ?_
  have hH : (fun w' => Blk w' w.heap.size #[.int .i64 (l : Int), .int .i64 (r : Int)] 123 ∧ Blk w' b C2 113) w2.drew := ⟨X2.out, F2.out.box⟩
  refine wpAnyM_take (i := 0) (oi := _) (v := .pointer (some ⟨b, 0, none⟩)) rfl (by kernel_rfl) (by kernel_rfl) (by kernel_rfl) (by kernel_rfl) (by kernel_rfl) (fun _ _ _ h => h) (Or.inl ⟨by rfl, fun w' hw' => by go_simp⟩) hH ?_
  try simp only [Act.put, getElem_toArray, getElem_cons_zero, getElem_cons_succ, setIfInBounds_toArray, set_cons_zero, set_cons_succ]
  refine wpAnyM_take (i := 1) (oi := _) (v := .pointer (some ⟨b, 0, none⟩)) rfl (by kernel_rfl) (by kernel_rfl) (by kernel_rfl) (by kernel_rfl) (by kernel_rfl) (fun _ _ _ h => h) (Or.inl ⟨by rfl, fun w' hw' => by go_simp⟩) hH ?_
  try simp only [Act.put, getElem_toArray, getElem_cons_zero, getElem_cons_succ, setIfInBounds_toArray, set_cons_zero, set_cons_succ]
  refine wpAnyM_take (i := 2) (oi := _) (v := .pointer (some ⟨b, 0, none⟩)) rfl (by kernel_rfl) (by kernel_rfl) (by kernel_rfl) (by kernel_rfl) (by kernel_rfl) (fun _ _ _ h => h) (Or.inl ⟨by rfl, fun w' hw' => by go_simp⟩) hH ?_
  try simp only [Act.put, getElem_toArray, getElem_cons_zero, getElem_cons_succ, setIfInBounds_toArray, set_cons_zero, set_cons_succ]
  refine wpAnyM_take (i := 3) (oi := _) (v := .pointer (some ⟨b, 8, none⟩)) rfl (by kernel_rfl) (by kernel_rfl) (by kernel_rfl) (by kernel_rfl) (by kernel_rfl) (fun _ _ _ h => h) (Or.inl ⟨by rfl, fun w' hw' => by go_simp⟩) hH ?_
  try simp only [Act.put, getElem_toArray, getElem_cons_zero, getElem_cons_succ, setIfInBounds_toArray, set_cons_zero, set_cons_succ]
  refine wpAnyM_take (i := 4) (oi := _) (v := .slice oa no oc) rfl (by kernel_rfl) (by kernel_rfl) (by kernel_rfl) (by kernel_rfl) (by kernel_rfl) (fun _ _ _ h => h) (Or.inl ⟨by rfl, fun w' hw' => by have hc := HC8.out w' hw'.2; clear hw'; go_simp⟩) hH ?_
  try simp only [Act.put, getElem_toArray, getElem_cons_zero, getElem_cons_succ, setIfInBounds_toArray, set_cons_zero, set_cons_succ]
  refine wpAnyM_take (i := 5) (oi := _) (v := .agg #[.int .i64 (l : Int), .int .i64 (r : Int)]) rfl (by kernel_rfl) (by kernel_rfl) (by kernel_rfl) (by kernel_rfl) (by kernel_rfl) (fun _ _ _ h => h) (yieldsIf_load_mid (by rfl) 123 _ rfl w.heap.size 0 rfl [.int .i64 (l : Int), .int .i64 (r : Int)] _ (fun w' h => rangeSp h.1) Tryz.underlying123 rfl infoSp) hH ?_
  try simp only [Act.put, getElem_toArray, getElem_cons_zero, getElem_cons_succ, setIfInBounds_toArray, set_cons_zero, set_cons_succ]
  refine wpAnyM_one (i := 6) (by kernel_rfl) rfl (fun K hK => ?_)
  obtain ⟨w3, hw3⟩ : ∃ w3, w3 = (w2.alloc (.cells #[.int .i64 (l : Int), .int .i64 (r : Int)] 123)).drew := ⟨_, rfl⟩
  have B3 := hide (show Below w2.heap.size w2 w3 from by rw [hw3]; exact ((Below.refl _ _).alloc (Nat.le_refl _) _).drew)
  have F3 := hide (F2.out.below B3.out)
  have C3 := hide (show ∀ j u, (#[.int .i64 (l : Int), .int .i64 (r : Int)] : Array Value).toList[j]? = some u → w3.cell? (Addr.add ⟨w2.heap.size, 0, none⟩ j) = some u from by rw [hw3]; exact cells_newF w2 #[.int .i64 (l : Int), .int .i64 (r : Int)] 123)
  have S3 := hide (show Blk w3 w.heap.size #[.int .i64 (l : Int), .int .i64 (r : Int)] 123 ∧ Blk w3 b C2 113 from And.intro (X2.out.below B3.out X2.out.lt) F3.out.box)
  have HW3 := hide hw3
  clear hw3 hH
  go_simp
  rw [← HW3.out]
  refine hK.out _ _ (fun _ _ => S3.out) ?_
  clear hK K
  try simp only [Act.put, getElem_toArray, getElem_cons_zero, getElem_cons_succ, setIfInBounds_toArray, set_cons_zero, set_cons_succ]
  refine wpAnyM_one (i := 7) (by kernel_rfl) rfl (fun K hK => ?_)
  rw [if_pos (by rfl)]
  refine wp_append_own_atT (.tmp 17) (.tmp 19) 111 rfl base 123 i0 (.agg #[.int .i64 0, .int .i64 0]) 2 16 Tryz.underlying111 hi0 hz0 hz1 hz2 rfl (by decide) (.slice oa no oc) no (spC od) rfl (by have := F3.out.orow; rw [← HNO.out] at this; exact this) ⟨w2.heap.size, 0, none⟩ 1 1 [.int .i64 (l : Int), .int .i64 (r : Int)] rfl rfl C3.out (by intro y hy; simp at hy; rcases hy with rfl | rfl <;> rfl) (by unfold maxLen; omega) (by omega) (by have := B3.out.size; omega) ?_
  intro v4 w4 o4 g4 n4
  obtain ⟨va, vc, hva⟩ := own_shape o4
  subst hva
  obtain ⟨f5, k5⟩ := Fl.setO (l := l) (r := r) F3.out (by rw [← HNO.out]; exact o4) g4 (n4.imp id (fun e => ⟨_, e, Nat.le_refl _⟩))
  have F5 := hide f5
  have P5 := hide (P2.out.trans ((KpF.of_below b R2 _ B3.out).trans k5))
  have k4 : Blk w4 b C2 113 := (g4.block _ F3.out.box.lt (fun e => F3.out.ne_ord e.symm)).trans F3.out.box
  have X4 : Blk w4 w.heap.size #[.int .i64 (l : Int), .int .i64 (r : Int)] 123 := (g4.block _ (Nat.lt_of_lt_of_le X2.out.lt B3.out.size) (fun e => by
    rcases P2.out.own w.heap.size (.inr (.inr e.symm)) with h5 | h5
    · exact HNo.out h5
    · have := K1.out.lt; omega)).trans S3.out.1
  have c8 := (k4.cell 8).trans F3.out.ord
  have f8 := k4.frozen 8
  refine hK.out _ _ (fun _ _ => ⟨X4, k4⟩) ?_
  clear hK K f5 k5 o4 g4 n4 X4 k4
  try simp only [Act.put, getElem_toArray, getElem_cons_zero, getElem_cons_succ, setIfInBounds_toArray, set_cons_zero, set_cons_succ]
  refine wpAnyM_one (i := 8) (by kernel_rfl) rfl (fun K hK => ?_)
  go_simp
  refine hK.out _ _ (fun h => absurd rfl h) ?_
  clear hK K
  try simp only [Act.put, getElem_toArray, getElem_cons_zero, getElem_cons_succ, setIfInBounds_toArray, set_cons_zero, set_cons_succ]
  refine wpAnyM_one (i := 9) (by kernel_rfl) rfl (fun K hK => ?_)
  go_simp
  refine hK.out _ _ (fun _ h => Bool.noConfusion (show true = false from h)) ?_
  clear hK K
  try simp only [Act.put, getElem_toArray, getElem_cons_zero, getElem_cons_succ, setIfInBounds_toArray, set_cons_zero, set_cons_succ]
  refine wpAnyM_one (i := 10) (by kernel_rfl) rfl (fun K hK => ?_)
  go_simp
  refine hK.out _ _ (fun _ h => Bool.noConfusion (show true = false from h)) ?_
  clear hK K c8 f8
  try simp only [Act.put, getElem_toArray, getElem_cons_zero, getElem_cons_succ, setIfInBounds_toArray, set_cons_zero, set_cons_succ]
  refine wpAnyM_done (by kernel_rfl) (NoPanic.normal ?_) _
  generalize w4.setCell ⟨b, 8, none⟩ (.slice va (no + 1) vc) = w5 at F5 P5 ⊢
  generalize C2.setIfInBounds 8 (.slice va (no + 1) vc) = C5 at F5
  clear F2 P2 X2 F3 C3 S3 HW3 B3 HC8 HF hs2
  have e1 : (upd LL (5 + l) (setN (LL (5 + l)) r (p : Int))) 1 = LL 1 := upd_other _ _ _ _ (by omega)
  have e2 : (upd LL (5 + l) (setN (LL (5 + l)) r (p : Int))) (2 + l) = LL (2 + l) := upd_other _ _ _ _ (by have := HH.out.1; omega)
  have HE := hide (And.intro e1 e2)
  obtain ⟨LL5, hLL5⟩ : ∃ LL5, LL5 = upd LL (5 + l) (setN (LL (5 + l)) r (p : Int)) := ⟨_, rfl⟩
  have HLL5 := hide hLL5
  rw [← hLL5] at F5 HE
  clear e1 e2 hLL5
  have hn0 : 0 < n := by omega
  obtain ⟨g, gc, hR1, hg, x1, hx⟩ := F5.out.wrow (by rw [HE.out.1, ← HH.out.2.2.2.2.1]; exact hn0)
  rw [HE.out.1, ← HH.out.2.2.2.2.1] at hR1 x1 hx
  obtain ⟨xp, fp⟩ := hx p hp.2
  have HG := hide (And.intro hR1 hg)
  clear hR1 hg hx
  go_upto_region 4 with fail
  obtain ⟨f6, k6⟩ := F5.out.setW (p := p) HG.out.2 1
  have F6 := hide f6
  have P6 := hide (P5.out.trans k6)
  clear f6 k6 x1 xp fp
  generalize w5.setCell ⟨g, p, none⟩ (.int .i64 1) = w6 at F6 P6 ⊢
  have X6 := hide (HBx.out _ _ _ P6.out)
  refine wp_region_noPanic ?_
  refine wp_region_held_drew (S := fun w' => Blk w' w.heap.size #[.int .i64 (l : Int), .int .i64 (r : Int)] 123) (by kernel_rfl) (show Blk w6.drew w.heap.size #[.int .i64 (l : Int), .int .i64 (r : Int)] 123 from X6.out) (fun hH => ?_)
  refine wpAnyH_take (i := 0) (oi := _) (v := .pointer (some ⟨b, 0, none⟩)) rfl (by kernel_rfl) (by kernel_rfl) (by kernel_rfl) (fun _ _ _ h => h) (Or.inl ⟨by rfl, fun w' hw' => by go_simp⟩) hH ?_
  try simp only [Act.put, getElem_toArray, getElem_cons_zero, getElem_cons_succ, setIfInBounds_toArray, set_cons_zero, set_cons_succ]
  refine wpAnyH_take (i := 1) (oi := _) (v := .pointer (some ⟨b, 0, none⟩)) rfl (by kernel_rfl) (by kernel_rfl) (by kernel_rfl) (fun _ _ _ h => h) (Or.inl ⟨by rfl, fun w' hw' => by go_simp⟩) hH ?_
  try simp only [Act.put, getElem_toArray, getElem_cons_zero, getElem_cons_succ, setIfInBounds_toArray, set_cons_zero, set_cons_succ]
  refine wpAnyH_take (i := 2) (oi := _) (v := .pointer (some ⟨b, 2, none⟩)) rfl (by kernel_rfl) (by kernel_rfl) (by kernel_rfl) (fun _ _ _ h => h) (Or.inl ⟨by rfl, fun w' hw' => by go_simp⟩) hH ?_
  try simp only [Act.put, getElem_toArray, getElem_cons_zero, getElem_cons_succ, setIfInBounds_toArray, set_cons_zero, set_cons_succ]
  refine wpAnyH_take (i := 3) (oi := _) (v := .agg #[.int .i64 (l : Int), .int .i64 (r : Int)]) rfl (by kernel_rfl) (by kernel_rfl) (by kernel_rfl) (fun _ _ _ h => h) (yieldsIf_load_mid (by rfl) 123 _ rfl w.heap.size 0 rfl [.int .i64 (l : Int), .int .i64 (r : Int)] _ (fun w' h => rangeSp h) Tryz.underlying123 rfl infoSp) hH ?_
  try simp only [Act.put, getElem_toArray, getElem_cons_zero, getElem_cons_succ, setIfInBounds_toArray, set_cons_zero, set_cons_succ]
  refine wpAnyH_ready (rs := [4]) (by kernel_rfl) (by simp) ?_
  refine AllReadyH.cons (o := _) rfl ?_ AllReadyH.nil
  intro K hK
  go_simp
  refine (atS_any b 2 l r C5 113 _ _ base _ (F6.out.old.below (Below.refl _ _).drew) (by have := HH.out.1; omega) (by have := HH.out.2.1; omega)).mono ?_
  rintro e w7 ⟨rfl, b7⟩
  have B7 := hide (show Below w6.heap.size w6 w7 from ((Below.refl _ _).drew).trans b7)
  have hov : (upd LL5 1 ((LL5 1).set p 1) (2 + l)).getD r 0 = o := by rw [upd_other _ _ _ _ (by omega), HE.out.2, ← HH.out.2.2.2.2.2.1]
  rw [hov]
  refine hK.out _ _ (X6.out.below B7.out X6.out.lt) (fun hH => ?_)
  clear hK K b7 hov
  try simp only [Act.put, getElem_toArray, getElem_cons_zero, getElem_cons_succ, setIfInBounds_toArray, set_cons_zero, set_cons_succ]
  refine wpAnyH_ready (rs := [5]) (by kernel_rfl) (by simp) ?_
  refine AllReadyH.cons (o := _) rfl ?_ AllReadyH.nil
  intro K hK
  go_simp
  refine hK.out _ _ (X6.out.below B7.out X6.out.lt) (fun hH => ?_)
  clear hK K
  try simp only [Act.put, getElem_toArray, getElem_cons_zero, getElem_cons_succ, setIfInBounds_toArray, set_cons_zero, set_cons_succ]
  refine wpAnyH_done (by kernel_rfl) (NoPanic.normal ?_) _
  clear hH
  have F7 := hide (F6.out.below B7.out)
  have P7 := hide (P6.out.trans (KpF.of_below b R2 _ B7.out))
  clear F6 P6 X6 B7 F5 P5
  obtain ⟨oN, hoN⟩ : ∃ k : Nat, o = (k : Int) := ⟨o.toNat, by omega⟩
  have HON := hide hoN
  obtain ⟨W, hWs⟩ : ∃ W : List Int, W = (LL 1).set p 1 := ⟨_, rfl⟩
  have HWs := hide hWs
  rw [HE.out.1, ← hWs] at F7
  have hWl : W.length = n := by rw [hWs, List.length_set, ← HH.out.2.2.2.2.1]
  have hWr : ∀ z ∈ W, 0 ≤ z ∧ z < 4294967296 := fun z hz => by
    rw [hWs] at hz
    rcases List.mem_or_eq_of_mem_set hz with hz | rfl
    · exact HH.out.2.2.2.2.2.2 z hz
    · omega
  have HWr := hide hWr
  have eW : (upd LL5 1 W) 1 = W := upd_same _ _ _
  obtain ⟨_, _, hR1, hg, x1, hx⟩ := F7.out.wrow (by rw [eW, hWl]; exact hn0)
  rw [eW, hWl] at hR1 x1 hx
  rw [HG.out.1] at hR1
  injection hR1 with q1 q2 q3
  injection q1 with q1
  injection q1 with q1 q4
  subst q1
  subst q3
  have HX := hide hx
  clear hx hWs hWl hWr eW q2 q4 hg
  by_cases ho0 : o = 0
  · have hob : (o != 0) = false := by simp [ho0]
    go_wp2_with (go_at_call 116; fail)
    refine (behind_any (p : Int) n _ (by omega) (by omega)).mono ?_
    rintro e w8 ⟨rfl, hw8⟩
    rw [hw8]
    clear hw8 w8
    have c9 := (F7.out.box.cell 9).trans F7.out.cur
    have f9 := F7.out.box.frozen 9
    obtain ⟨f8, k8⟩ := F7.out.setC (behI n p)
    have F8 := hide f8
    have P8 := hide (P7.out.trans k8)
    clear f8 k8
    go_wp2
    go_end0
    refine ⟨rfl, C5.setIfInBounds 9 (.int .i64 (behI n p)), R2, _, ?_, by rw [← HNO.out]; exact HP0.out.trans P8.out⟩
    · have := F8.out
      unfold mvL
      rw [show clrB ((LL 1).set p 1) o = W from by unfold clrB; rw [if_pos ho0, HWs.out], ← HLL5.out]
      exact this
  · have hob : (o != 0) = true := by simpa using ho0
    obtain ⟨xo, fo⟩ := HX.out oN (by omega)
    obtain ⟨z, hz⟩ : ∃ z, z = W.getD oN 0 := ⟨_, rfl⟩
    have hzr : 0 ≤ z ∧ z < 4294967296 := by rw [hz]; exact getD_in HWr.out oN
    rw [← hz] at xo
    have HZ := hide hz
    have hbt := andNot_one z hzr
    clear hz
    subst hoN
    have hoN2 : oN < n := by omega
    go_upto_region 7 with fail
    obtain ⟨f8, k8⟩ := F7.out.setW (p := oN) HG.out.2 (even z)
    have F8 := hide f8
    have P8 := hide (P7.out.trans k8)
    clear f8 k8 xo fo x1 hbt
    generalize w7.setCell ⟨g, oN, none⟩ (.int .i64 (even z)) = w8 at F8 P8 ⊢
    have eW : (upd (upd LL5 1 W) 1 ((upd LL5 1 W) 1 |>.set oN (even z))) 1 = W.set oN (even z) := by rw [upd_same, upd_same]
    have hWl : W.length = n := by rw [HWs.out, List.length_set, ← HH.out.2.2.2.2.1]
    obtain ⟨_, _, hR1, _, x1, _⟩ := F8.out.wrow (by rw [eW, List.length_set, hWl]; exact hn0)
    rw [eW, List.length_set, hWl] at hR1 x1
    rw [HG.out.1] at hR1
    injection hR1 with q1 q2 q3
    injection q1 with q1
    injection q1 with q1 q4
    subst q1
    subst q3
    clear q2 q4 eW hWl
    go_wp2_with (go_at_call 116; fail)
    refine (behind_any (p : Int) n _ (by omega) (by omega)).mono ?_
    rintro e w9 ⟨rfl, hw9⟩
    rw [hw9]
    clear hw9 w9
    have c9 := (F8.out.box.cell 9).trans F8.out.cur
    have f9 := F8.out.box.frozen 9
    obtain ⟨f9', k9⟩ := F8.out.setC (behI n p)
    have F9 := hide f9'
    have P9 := hide (P8.out.trans k9)
    clear f9' k9
    go_wp2
    go_end0
    refine ⟨rfl, C5.setIfInBounds 9 (.int .i64 (behI n p)), R2, _, ?_, by rw [← HNO.out]; exact HP0.out.trans P9.out⟩
    have := F9.out
    rw [upd_upd, upd_same] at this
    unfold mvL
    rw [show clrB ((LL 1).set p 1) (oN : Int) = W.set oN (even z) from by unfold clrB; rw [if_neg ho0, ← HWs.out, Int.toNat_natCast, HZ.out], ← HLL5.out]
    exact this
end Go.Proofs.YtlimollpocagiaaGreatDoor
