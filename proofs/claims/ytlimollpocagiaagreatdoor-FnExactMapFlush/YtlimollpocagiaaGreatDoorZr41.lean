/- openTree, whose fault is said to be new. numbered, with what it answers where it fails. -/
import Derived.Test.YtlimollpocagiaaGreatDoorZr16
import Derived.Test.YtlimollpocagiaaGreatDoorZr22
namespace Go.Proofs.YtlimollpocagiaaGreatDoor
set_option linter.unusedVariables false
set_option linter.unusedSimpArgs false
open Go.RowKit Go.Shelf
set_option maxRecDepth 100000 in
set_option maxHeartbeats 2000000 in
theorem openTreeL_any (img : Value) (zs : List Int) (s : Int) (ds : List Int) (p q : Int) (w : World) (h : Rd .u8 w img zs) (hz : zs.length ≤ 1048576) (hd : ds.length = 12) :
    Calls Tryz.prog 43 #[img, .agg (cellsI (rootI s ds p q))] w fun e w' => ∃ ev, e = .returned (.tuple #[.agg (treT img (rootI s ds p q)), ev]) ∧ FaultIs w' w.heap.size (szOk zs.length && rightR s ds p q) ev 7 ∧ Below w.heap.size w w' := by
  obtain ⟨sa, sc, rfl⟩ := rd_shapeT h
  have HR := hide (And.intro h hd)
  have hRl := rootI_len s ds p q hd
  have HBu := hide (built_tre sa zs.length sc (rootI s ds p q) hRl)
  have HZ := hide (show (cellsI (rootI s ds p q)).size = 15 from by rw [cellsI_size]; exact hRl)
  have HTs := hide (treT_size (.slice sa zs.length sc) _ hRl)
  clear h hd hRl
  go_enter Tryz.func43, Tryz.ntmps43
  go_upto_region 2 with fail
  generalize hW1 : World.alloc _ (Obj.cells #[.int .i64 7, .nilIface] 100) = W1
  have HW := hide (show ∃ Z0 : Array Value, Z0.size = 16 ∧ Blk W1 w.heap.size (cellsI (rootI s ds p q)) 28 ∧ Blk W1 (w.heap.size + 1) Z0 87 ∧ Ck W1 (w.heap.size + 2) (w.heap.size + 3) 7 true ∧ Below w.heap.size w W1 ∧ W1.heap.size = w.heap.size + 3 from by
    rw [← hW1]
    refine ⟨zeroTT.toArray, rfl, ((Blk.new w _ _).alloc _).alloc _, ?_, ?_, ?_, ?_⟩
    · have h := Blk.new (w.alloc (.cells (cellsI (rootI s ds p q)) 28)) zeroTT.toArray 87
      rw [World.size_alloc] at h
      exact h.alloc _
    · have h := Ck.fresh ((w.alloc (.cells (cellsI (rootI s ds p q)) 28)).alloc (.cells zeroTT.toArray 87)) 7 100
      rw [World.size_alloc, World.size_alloc] at h
      exact h
    · exact (((Below.refl _ _).alloc (Nat.le_refl _) _).alloc (by simp) _).alloc (by simp; omega) _
    · simp)
  clear hW1
  obtain ⟨Z0, hZ0, k0, k1, ck, bb, hs1⟩ := HW.out
  have H1 := hide (And.intro hZ0 (And.intro k0 (And.intro k1 (And.intro ck (And.intro bb hs1)))))
  clear HW hZ0 k0 k1 ck bb hs1
  go_upto_region 3 with (first
    | (go_at_call 85; refine (rightInSize_any _ zs _ (HR.out.1.below H1.out.2.2.2.2.1) (by omega)).mono ?_; rintro e w9 ⟨rfl, hw9⟩; rw [← hw9]; clear hw9)
    | (go_at_call 58; refine (need_any (w.heap.size + 2) (w.heap.size + 3) _ 7 true (szOk zs.length) _ H1.out.2.2.2.1 (by omega) (by rw [H1.out.2.2.2.2.2]; omega)).mono ?_; rintro e w2 ⟨rfl, ck2, t2⟩; rw [Bool.true_and] at ck2; have H2 := hide (And.intro ck2 t2); clear ck2 t2))
  have HB2 := hide (H2.out.2.under H1.out.2.2.2.2.1 (by omega) H1.out.2.2.2.2.1.size)
  have hs2 : w.heap.size + 3 ≤ w2.heap.size := by have := H2.out.2.1.size; rw [H1.out.2.2.2.2.2] at this; exact this
  have K0 := hide (show Blk w2 w.heap.size (cellsI (rootI s ds p q)) 28 from (H2.out.2.1.block _ H1.out.2.1.lt (by simp)).trans H1.out.2.1)
  have K1 := hide (show Blk w2 (w.heap.size + 1) Z0 87 from (H2.out.2.1.block _ H1.out.2.2.1.lt (by simp)).trans H1.out.2.2.1)
  go_upto_region 4 with (first
    | (refine wpList_load_row rfl 28 _ rfl w.heap.size rfl 28 (cellsI (rootI s ds p q)) (0, 0) _ K0.out Tryz.underlying28 rfl (by rw [HZ.out]; exact info15) ?_)
    | (go_at_call 86; refine (rootFault_any s ds p q 7 _ HR.out.2).mono ?_; rintro e w3 ⟨ev3, rfl, f3, b3⟩; have H3 := hide (And.intro f3 b3); clear f3 b3)
    | (go_at_call 56; refine (inside_both (w.heap.size + 2) (w.heap.size + 3) _ 7 (szOk zs.length) (rightR s ds p q) ev3 _ (H2.out.1.below H3.out.2) (H3.out.1.mono hs2) (by omega) (Nat.le_trans hs2 H3.out.2.size)).mono ?_; rintro e w4 ⟨rfl, ck4, t4⟩; have H4 := hide (And.intro ck4 t4); clear ck4 t4))
  have hs3 := H3.out.2.size
  have HB4 := hide (H4.out.2.under (HB2.out.trans (H3.out.2.mono HB2.out.size)) (by omega) (Nat.le_trans HB2.out.size hs3))
  have L0 : Blk w4 w.heap.size (cellsI (rootI s ds p q)) 28 := (H4.out.2.1.block _ (Nat.lt_of_lt_of_le K0.out.lt hs3) (by simp)).trans (K0.out.below H3.out.2 K0.out.lt)
  have L1 := hide (show Blk w4 (w.heap.size + 1) Z0 87 from (H4.out.2.1.block _ (Nat.lt_of_lt_of_le K1.out.lt hs3) (by simp)).trans (K1.out.below H3.out.2 K1.out.lt))
  obtain ⟨ev, ce, hfe⟩ := H4.out.1.fault
  have HFe := hide hfe
  clear hfe
  refine wp_region_noPanic ?_
  refine wp_region_held_drew (S := fun w' => Blk w' w.heap.size (cellsI (rootI s ds p q)) 28 ∧ w'.cell? ⟨w.heap.size + 2, 1, none⟩ = some ev) (by kernel_rfl) ⟨L0, ce⟩ (fun hH => ?_)
  refine wpAnyH_take (i := 0) (oi := _) (v := .slice sa zs.length sc) rfl (by kernel_rfl) (by kernel_rfl) (by kernel_rfl) (fun _ _ _ h => h) (Or.inl ⟨by rfl, fun w' hw' => by go_simp⟩) hH ?_
  try simp only [Act.put, List.getElem_toArray, List.getElem_cons_zero, List.getElem_cons_succ, List.setIfInBounds_toArray, List.set_cons_zero, List.set_cons_succ]
  refine wpAnyH_take (i := 1) (oi := _) (v := .agg (cellsI (rootI s ds p q))) rfl (by kernel_rfl) (by kernel_rfl) (by kernel_rfl) (fun _ _ _ h => h) (Or.inl ⟨by rfl, fun w' hw' => run_load_rowT (a := _) 28 (.tmp 3) rfl w.heap.size rfl 28 _ (0, 0) _ hw'.1 Tryz.underlying28 rfl (by rw [HZ.out]; exact info15)⟩) hH ?_
  try simp only [Act.put, List.getElem_toArray, List.getElem_cons_zero, List.getElem_cons_succ, List.setIfInBounds_toArray, List.set_cons_zero, List.set_cons_succ]
  refine wpAnyH_take (i := 2) (oi := _) (v := .agg (treT (.slice sa zs.length sc) (rootI s ds p q))) rfl (by kernel_rfl) (by kernel_rfl) (by kernel_rfl) (fun _ _ _ h => h) (Or.inl ⟨by rfl, fun w' hw' => run_buildT 87 _ rfl _ (by simp only [List.map_toArray, List.map_cons, List.map_nil]; exact HBu.out)⟩) hH ?_
  try simp only [Act.put, List.getElem_toArray, List.getElem_cons_zero, List.getElem_cons_succ, List.setIfInBounds_toArray, List.set_cons_zero, List.set_cons_succ]
  refine wpAnyH_take (i := 3) (oi := _) (v := .pointer (some ⟨w.heap.size + 2, 1, none⟩)) rfl (by kernel_rfl) (by kernel_rfl) (by kernel_rfl) (fun _ _ _ h => h) (Or.inl ⟨by rfl, fun w' hw' => by go_simp⟩) hH ?_
  try simp only [Act.put, List.getElem_toArray, List.getElem_cons_zero, List.getElem_cons_succ, List.setIfInBounds_toArray, List.set_cons_zero, List.set_cons_succ]
  refine wpAnyH_take (i := 4) (oi := _) (v := ev) rfl (by kernel_rfl) (by kernel_rfl) (by kernel_rfl) (fun _ _ _ h => h) (Or.inl ⟨by rfl, fun w' hw' => by have c9 := hw'.2; go_simp⟩) hH ?_
  try simp only [Act.put, List.getElem_toArray, List.getElem_cons_zero, List.getElem_cons_succ, List.setIfInBounds_toArray, List.set_cons_zero, List.set_cons_succ]
  have D1 : Blk (World.drew w4) (w.heap.size + 1) Z0 87 := L1.out
  have hgr : (World.drew w4).grownBy ((World.drew w4).setRow (w.heap.size + 1) (treT (.slice sa zs.length sc) (rootI s ds p q))) (some (w.heap.size + 1)) := ⟨rfl, rfl, rfl, by simp [World.setRow], fun k hk hne => by simp [World.setRow, Array.getElem?_modify, show ¬ w.heap.size + 1 = k from fun e => hne (by rw [e])]⟩
  refine wpAnyH_ready (rs := [5]) (by kernel_rfl) (by simp) ?_
  refine AllReadyH.cons (o := _) rfl (fun K hK => ?_) AllReadyH.nil
  rw [if_pos (by rfl)]
  refine wp_store_row 87 (.tmp 4) (.tmp 16) rfl (w.heap.size + 1) (treT (.slice sa zs.length sc) (rootI s ds p q)) rfl rfl 87 Z0 D1 (by rw [HTs.out]; exact infoTr) (by rw [HTs.out]; exact H1.out.1) (treT_one _) ?_
  have hckl := H4.out.1.lt
  refine hK.out _ _ ⟨(hgr.block _ L0.lt (by simp)).trans L0, (World.cell?_of_block (a := ⟨w.heap.size + 2, 1, none⟩) (hgr.block _ (show w.heap.size + 2 < w4.heap.size from hckl) (by simp))).trans ce⟩ (fun hH2 => ?_)
  clear hK K
  try simp only [Act.put, List.getElem_toArray, List.getElem_cons_zero, List.getElem_cons_succ, List.setIfInBounds_toArray, List.set_cons_zero, List.set_cons_succ]
  refine wpAnyH_take (i := 6) (oi := _) (v := ev) rfl (by kernel_rfl) (by kernel_rfl) (by kernel_rfl) (fun _ _ _ h => h) (Or.inl ⟨by rfl, fun w' hw' => by go_simp⟩) hH2 ?_
  try simp only [Act.put, List.getElem_toArray, List.getElem_cons_zero, List.getElem_cons_succ, List.setIfInBounds_toArray, List.set_cons_zero, List.set_cons_succ]
  refine wpAnyH_done (by kernel_rfl) (NoPanic.normal ?_) _
  go_wp2
  refine bodyPost_ret (v := .tuple #[.agg (treT (.slice sa zs.length sc) (rootI s ds p q)), ev]) ?_ rfl ⟨ev, rfl, ?_, below_setRow (HB4.out.drew) (by omega) _⟩
  · exact results_row_tmp rfl _ _ (w.heap.size + 1) 87 _ (0, 0) _ _ rfl rfl (D1.row _) Tryz.underlying87 rfl (by rw [HTs.out]; exact infoTr)
  · rcases HFe.out with ⟨h1, h2⟩ | ⟨h1, m, h2⟩
    · exact .inl ⟨h1, h2⟩
    · refine .inr ⟨h1, m, Flt.mono (lo := w.heap.size + 3) (by omega) (Flt.keep (fun b o u hb hc => ?_) h2)⟩
      have hlt := cell_lt hc
      exact (World.cell?_of_block (a := ⟨b, o, none⟩) (hgr.block b (show b < w4.heap.size from hlt) (by simp; omega))).trans hc
end Go.Proofs.YtlimollpocagiaaGreatDoor

namespace Go.Proofs.YtlimollpocagiaaGreatDoor
set_option linter.unusedVariables false
set_option linter.unusedSimpArgs false
open Go.RowKit Go.Shelf
attribute [local go_sem] Oper.semAt_some
set_option maxRecDepth 100000 in
set_option maxHeartbeats 4000000 in
theorem numberedL_any (cnt sz : Nat) (zs : List Int) (C : Array Value) (Pv : Nat → Int) (iv : Value) (w : World) (Z : TL)
    (hC0 : C[0]? = some iv) (hC1 : C[1]? = some (.int .i64 (sz : Int))) (hCP : ∀ j, j < 14 → C[2 + j]? = some (.int .i64 (Pv j))) (hCs : C.size = 16) (hR : Rd .u8 w iv zs) (hz : zs.length ≤ 1048576) (hbd : ∀ z ∈ zs, 0 ≤ z ∧ z < 256) (hsz : sz ≤ 262144) (hcnt : cnt = (sz + 511) / 512)
    (hZ : Z = allT (topsT cnt (zs.length / 512) (wrdP zs) Pv)) :
    Calls Tryz.prog 60 #[.agg C] w fun e w' => ∃ D ev, e = .returned (.tuple #[.agg D, ev]) ∧ D.size = 3 ∧ ((Z.2 = false ∧ ev = .nilIface ∧ ∃ b sl, NumS w' w.heap.size b 0 D 106 sl (numL (upX Z.1))) ∨ (Z.2 = true ∧ D.all (·.oneCell') = true ∧ ∃ n, Flt w' 0 n ev 21)) ∧ Below w.heap.size w w' := by
  have HC := hide (And.intro hC0 (And.intro hC1 (And.intro hCP hCs)))
  have HR := hide (And.intro hR hbd)
  have HZ := hide hZ
  have HZl := hide (show ∀ h ∈ Z.1, h.1 < 3 ∧ h.2.1 < cnt from fun h hm => by rw [hZ] at hm; exact tops_lv hm)
  clear hC0 hC1 hCP hCs hR hbd hZ
  obtain ⟨W0, hW0⟩ : ∃ W0, W0 = (((w.alloc (.cells C 87)).alloc (.cells #[.slice none 0 0, .slice none 0 0, .slice none 0 0] 106)).alloc (.cells #[.nilIface] 62)).alloc (.cells #[.slice none 0 0, .slice none 0 0, .slice none 0 0] 106) := ⟨_, rfl⟩
  have hs0 : W0.heap.size = w.heap.size + 4 := by rw [hW0]; simp
  have B0 := hide (show Below w.heap.size w W0 from by rw [hW0]; exact ((((Below.refl _ _).alloc (Nat.le_refl _) _).alloc (by simp) _).alloc (by simp; omega) _).alloc (by simp; omega) _)
  have K0 := hide (show Blk W0 w.heap.size C 87 from by rw [hW0]; exact (((Blk.new w C _).alloc _).alloc _).alloc _)
  have K1 := hide (show Blk W0 (w.heap.size + 1) #[.slice none 0 0, .slice none 0 0, .slice none 0 0] 106 from by have h := Blk.new (w.alloc (.cells C 87)) #[.slice none 0 0, .slice none 0 0, .slice none 0 0] 106; rw [World.size_alloc] at h; rw [hW0]; exact (h.alloc _).alloc _)
  have K2 := hide (show Blk W0 (w.heap.size + 2) #[.nilIface] 62 from by have h := Blk.new ((w.alloc (.cells C 87)).alloc (.cells #[.slice none 0 0, .slice none 0 0, .slice none 0 0] 106)) #[.nilIface] 62; rw [World.size_alloc, World.size_alloc] at h; rw [hW0]; exact h.alloc _)
  have K3 := hide (show Blk W0 (w.heap.size + 3) #[.slice none 0 0, .slice none 0 0, .slice none 0 0] 106 from by have h := Blk.new (((w.alloc (.cells C 87)).alloc (.cells #[.slice none 0 0, .slice none 0 0, .slice none 0 0] 106)).alloc (.cells #[.nilIface] 62)) #[.slice none 0 0, .slice none 0 0, .slice none 0 0] 106; rw [World.size_alloc, World.size_alloc, World.size_alloc] at h; rw [hW0]; exact h)
  have HW0 := hide hW0
  have HS0 := hide hs0
  clear hW0 hs0
  obtain ⟨WL, hWL⟩ : ∃ WL, WL = W0.alloc (.cells C 87) := ⟨_, rfl⟩
  have hs0a : W0.heap.size ≤ w.heap.size + 4 := by rw [HS0.out]; omega
  have hs0b : w.heap.size + 4 ≤ W0.heap.size := by rw [HS0.out]; omega
  have b0L : Below W0.heap.size W0 WL := by rw [hWL]; exact (Below.refl _ _).alloc (Nat.le_refl _) _
  have hsLe : WL.heap.size = W0.heap.size + 1 := by rw [hWL]; simp
  have hsLa : WL.heap.size ≤ W0.heap.size + 1 := by rw [hsLe]; omega
  have hsLb : W0.heap.size + 1 ≤ WL.heap.size := by rw [hsLe]; omega
  clear hsLe
  have I0 := hide (show ∀ W', Below WL.heap.size WL W' → WL.heap.size + 2 ≤ W'.heap.size → NbrI w C Z [] W' from fun W' hb hs' => by
    have hb0 : Below W0.heap.size W0 W' := b0L.trans (hb.mono (by omega))
    refine ⟨⟨[], rfl, List.nil_prefix⟩, ⟨_, fun _ => .slice none 0 0, rfl, K3.out.below hb0 K3.out.lt, fun l hl => ?_, fun l hl => World.ownsRow_nil _ _ _ _, fun l m _ _ _ => .inl rfl⟩, K0.out.below hb0 K0.out.lt, K1.out.below hb0 K1.out.lt, K2.out.below hb0 K2.out.lt, B0.out.trans (hb0.mono (by omega)), by omega⟩
    rw [Nat.zero_add]
    match l, hl with
    | 0, _ => rfl
    | 1, _ => rfl
    | 2, _ => rfl)
  have HX := hide (show Blk WL W0.heap.size C 87 from by rw [hWL]; exact Blk.new W0 C 87)
  have HBL := hide (show Below w.heap.size w WL from B0.out.trans (b0L.mono (by omega)))
  have HWL := hide hWL
  clear hWL b0L
  refine (callsIn_wide (n := 6)).1 ?_
  refine callsIn_of_wp_marks Tryz.func60 rfl trivial ?_ rfl
  simp only [Tryz.ntmps60, List.size_toArray, List.length_cons, List.length_nil, Nat.reduceAdd, Nat.reduceSub, Array.replicate_succ, Array.replicate_zero, List.push_toArray, List.append_toArray, List.nil_append, List.cons_append]
  gi_upto_region 2 with fail
  rw [← HW0.out]
  refine wpIn_wide.2 ?_
  go_wp2_with (first
    | (refine wpList_load_row rfl 87 _ rfl w.heap.size rfl 87 C (0, 0) _ K0.out Tryz.underlying87 rfl (by rw [HC.out.2.2.2]; exact infoTr) ?_)
    | (go_at_call 87; refine (callsIn_wide.1 (blocks_in 0 C _)).mono ?_; rintro e w' ⟨rfl, rfl⟩))
  gi_wp2
  rw [← HWL.out]
  have hmx : Tryz.prog.follows .mixedOrders = true := by kernel_rfl
  refine wpIn_rangeGoesK (α := TX) rfl (by decide) (gf := 109) (lb := #[.pointer (some ⟨W0.heap.size, 0, none⟩)]) rfl trivial (enters_of Tryz.func109 (by kernel_rfl) rfl) (encs := TX.enc) (Kp := (Kq w.heap.size (WL.heap.size + 2) (fun t => t = 106 ∨ t = 3))) Kq.trans (fun A o o' ho hc => Kq.put o' (by omega) (by omega) ho hc)
    (Ok := OkX Z) (S := fun xs => (Z.2 = false ∧ xs = upX Z.1) ∨ (Z.2 = true ∧ ∃ x, xs = upX Z.1 ++ [x])) (Sp := fun _ => True)
    (fun W1 hb1 hs1 => by
      have := blocks_goes 5 (by omega) W0.heap.size w.heap.size (fun t => t = 106 ∨ t = 3) Z cnt sz zs C Pv iv w W1 (by decide) (by decide) (by decide) (by decide) HC.out.1 HC.out.2.1 HC.out.2.2.1 HC.out.2.2.2 HR.out.1 rfl hz HR.out.2 hsz hcnt HZ.out (HX.out.below hb1 HX.out.lt) (HBL.out.trans (hb1.mono (by omega))) (by omega)
      rw [hs1] at this
      exact this)
    (fun _ => rfl) (NbrI w C Z)
    (fun c pre Wx => c = .ret ∧ Z.2 = true ∧ (∃ v, Blk Wx (w.heap.size + 1) #[.slice none 0 0, .slice none 0 0, .slice none 0 0] 106 ∧ Blk Wx (w.heap.size + 2) #[v] 62 ∧ ∃ n, Flt Wx 0 n v 21) ∧ Below w.heap.size w Wx)
    (NbrI.abides (by omega))
    (by
      rintro c pre A B row ⟨h1, h2, ⟨v, h3, h4, n, h5⟩, h6⟩ hg hr
      exact ⟨h1, h2, ⟨v, blk_abide h3 hg hr, blk_abide h4 hg hr, n, flt_abide h5 hg hr⟩, below_abide h6 (by omega) h6.size hg hr⟩)
    (fun W' hb hs' => I0.out W' hb (by omega))
    (fun pre x a' Wx => ∃ c, a' = { tmps := #[.agg C, .pointer (some ⟨w.heap.size, 0, none⟩), .pointer (some ⟨w.heap.size + 1, 0, none⟩), .pointer (some ⟨w.heap.size + 1 + 1, 0, none⟩), .pointer (some ⟨w.heap.size + 1 + 1 + 1, 0, none⟩), .pointer (some ⟨c, 0, none⟩), x.2, .agg C, .func (.func 109) #[] #[.pointer (some ⟨W0.heap.size, 0, none⟩)], .agg #[.int .i64 (x.1.1 : Int), .int .i64 (x.1.2.1 : Int), .int .i64 x.1.2.2], x.2, undef, undef, undef, undef, undef, undef, undef, undef, undef, undef], defers := [] } ∧ Blk Wx c #[.int .i64 (x.1.1 : Int), .int .i64 (x.1.2.1 : Int), .int .i64 x.1.2.2] 149 ∧ w.heap.size + 7 ≤ c ∧ (NbrI w C Z) pre Wx ∧ OkX Z pre x Wx) ?ax ?assign ?body ?done ?stop
  case ax =>
    rintro pre x a' A B ⟨c, h1, h2, h2c, h3, h4⟩ hg hr
    exact ⟨c, h1, blk_bare h2 hg hr, h2c, NbrI.abides (z := WL.heap.size + 1) (by omega) pre A B _ h3 hg (fun r e => by cases e; exact ⟨Nat.le_refl _, hr⟩), okX_abide (z := 0) h4 hg (fun r e => by cases e; exact ⟨Nat.zero_le _, hr⟩)⟩
  case assign =>
    rintro l pre ⟨⟨lv, rk, p⟩, ev⟩ Wx K hI hok hK
    have HK := hide (And.intro hI (And.intro hok hK))
    clear hI hok hK
    unfold TX.enc
    gi_wp2
    have bA : Below Wx.heap.size Wx (Wx.alloc (.cells #[.int .i64 (lv : Int), .int .i64 (rk : Int), .int .i64 p] 149)) := (Below.refl _ _).alloc (Nat.le_refl _) _
    have gA : Wx.grownBy (Wx.alloc (.cells #[.int .i64 (lv : Int), .int .i64 (rk : Int), .int .i64 p] 149)) none := ⟨bA.os, bA.tape, bA.output, bA.size, fun k hk _ => bA.block k hk⟩
    exact HK.out.2.2 _ _ (keeps_belowT bA) (Kq.of_below bA (by have := HK.out.1.size; omega)) ⟨_, rfl, Blk.new _ _ _, HK.out.1.size, NbrI.abides (z := w.heap.size) (Nat.le_refl _) pre _ _ none HK.out.1 gA (fun r e => by cases e), okX_abide (z := 0) HK.out.2.1 gA (fun r e => by cases e)⟩
  case body =>
    rintro l pre ⟨⟨lv, rk, p⟩, ev⟩ a' Wx ⟨c, rfl, kc, hcs, hI, hok⟩
    dsimp only at kc ⊢
    have hIs := hI.size
    rcases hok with ⟨hev, A, hA, hpre⟩ | ⟨hx0, A, hA, hZt, nf, hfl⟩
    · dsimp only at hev
      subst hev
      have HT2 := hide (show ∃ A', pre ++ [((lv, rk, p), Value.nilIface)] = upX A' ∧ A' <+: Z.1 from ⟨A ++ [(lv, rk, p)], by rw [upX_snoc, hA], hpre⟩)
      have HLv := hide (show lv < 3 ∧ rk < cnt from HZl.out _ (ok_mem hpre))
      have HLn := hide (show (numL pre lv).length ≤ cnt from by rw [hA]; exact numL_len lv A (fun h hh => (HZl.out h (hpre.subset (by simp [hh]))).2))
      obtain ⟨D, sl, hD3, hns⟩ := hI.nums
      have HI := hide (And.intro hI (And.intro kc (And.intro hD3 hns)))
      have c2 := (kc.cell 2).trans (show _ = some (.int .i64 p) from rfl)
      have hrg : Wx.rangeAt c 0 [.int .i64 (lv : Int), .int .i64 (rk : Int)] := by
        intro j v hj
        match j, hj with
        | 0, hj => rw [(kc.cell (0 + 0))]; simpa using hj
        | 1, hj => rw [(kc.cell (0 + 1))]; simpa using hj
        | k + 2, hj => simp at hj
      have HRg := hide hrg
      have hcnt2 : cnt ≤ 512 := by omega
      clear hI kc hpre hA hD3 hns hrg
      gi_wp2_with (first
        | (refine wpListIn_load_mid rfl 123 _ rfl c 0 rfl [.int .i64 (lv : Int), .int .i64 (rk : Int)] _ HRg.out Tryz.underlying123 rfl infoSp ?_)
        | (refine ⟨trivial, ?_⟩; gi_at_call 92; refine (CallsIn.inRound l (callsIn_wide.2 (setS_any (w.heap.size + 3) 0 lv rk D 106 sl (numL pre) p w.heap.size _ HI.out.2.2.2 HLv.out.1 (by have := HLv.out.2; omega) (by have := HLn.out; omega) (by decide) (by omega)))).mono ?_; rintro e w9 ⟨rfl, sw, n9, f9⟩; have H9 := hide (And.intro n9 f9); clear n9 f9))
      have kF : ∀ z, Kq w.heap.size z (fun t => t = 106 ∨ t = 3) Wx w9 := fun z => Kq.num H9.out.2 HI.out.2.2.2.box (HI.out.2.2.2.row lv HLv.out.1) (.inl rfl) (.inr rfl) (by omega) (Nat.le_refl _)
      have HN := hide (show NbrI w C Z (pre ++ [((lv, rk, p), Value.nilIface)]) w9 from
        ⟨HT2.out, ⟨D.setIfInBounds (0 + lv) sw, upd sl lv sw, by simpa using HI.out.2.2.1, by rw [numL_snoc]; exact H9.out.1⟩, H9.out.2.blk (HI.out.2.2.2.row lv HLv.out.1) HI.out.1.tree (by omega) (by decide), H9.out.2.blk (HI.out.2.2.2.row lv HLv.out.1) HI.out.1.res1 (by omega) (by decide), H9.out.2.blk (HI.out.2.2.2.row lv HLv.out.1) HI.out.1.res2 (by omega) (by decide), HI.out.1.old.trans (kF 0).below, Nat.le_trans HI.out.1.size (kF 0).size⟩)
      exact ⟨(kF _).keepsZ, kF _, HN.out⟩
    · obtain ⟨t', x', rfl⟩ := hfl.iface
      have HI := hide (And.intro hI hfl)
      have c1 := (hI.res1.cell 0).trans (show _ = some (.slice none 0 0) from rfl)
      have c11 := (hI.res1.cell 1).trans (show _ = some (.slice none 0 0) from rfl)
      have c12 := (hI.res1.cell 2).trans (show _ = some (.slice none 0 0) from rfl)
      have f1 := hI.res1.frozen 0
      have f11 := hI.res1.frozen 1
      have f12 := hI.res1.frozen 2
      have c2 := (hI.res2.cell 0).trans (show _ = some .nilIface from rfl)
      have f2 := hI.res2.frozen 0
      have HZt := hide (show Z.2 = true by rw [hZt])
      clear hI hfl hA hZt
      gi_wp2
      obtain ⟨WE, hWE⟩ : ∃ WE, WE = (((Wx.setCell ⟨w.heap.size + 1, 0, none⟩ (.slice none 0 0)).setCell ⟨w.heap.size + 1, 1, none⟩ (.slice none 0 0)).setCell ⟨w.heap.size + 1, 2, none⟩ (.slice none 0 0)).setCell ⟨w.heap.size + 1 + 1, 0, none⟩ (.iface t' (.pointer (some x'))) := ⟨_, rfl⟩
      rw [← hWE]
      have k1 := HI.out.1.res1
      have s1 := k1.set 0 (.slice none 0 0)
      have s2 := s1.set 1 (.slice none 0 0)
      have s3 := s2.set 2 (.slice none 0 0)
      have r2 := ((HI.out.1.res2.other ⟨w.heap.size + 1, 0, none⟩ (.slice none 0 0) (by show w.heap.size + 2 ≠ w.heap.size + 1; omega)).other ⟨w.heap.size + 1, 1, none⟩ (.slice none 0 0) (by show w.heap.size + 2 ≠ w.heap.size + 1; omega)).other ⟨w.heap.size + 1, 2, none⟩ (.slice none 0 0) (by show w.heap.size + 2 ≠ w.heap.size + 1; omega)
      have g1 : Blk WE (w.heap.size + 1) #[.slice none 0 0, .slice none 0 0, .slice none 0 0] 106 := by rw [hWE]; exact s3.other _ _ (by show w.heap.size + 1 ≠ w.heap.size + 1 + 1; omega)
      have g2 : Blk WE (w.heap.size + 2) #[.iface t' (.pointer (some x'))] 62 := by rw [hWE]; exact r2.set 0 _
      have fl : Flt WE 0 nf (.iface t' (.pointer (some x'))) 21 := by
        rw [hWE]
        refine flt_set r2 (by intro k z h; cases h) _ ?_
        refine Flt.keep (fun b o u _ hc => cell_self ((s2.cell 2).trans rfl) hc) ?_
        refine Flt.keep (fun b o u _ hc => cell_self ((s1.cell 1).trans rfl) hc) ?_
        exact Flt.keep (fun b o u _ hc => cell_self ((k1.cell 0).trans rfl) hc) HI.out.2
      have hold : Below w.heap.size w WE := by
        rw [hWE]
        exact (((HI.out.1.old.setCell (p := ⟨w.heap.size + 1, 0, none⟩) (by show w.heap.size ≤ w.heap.size + 1; omega) _).setCell (p := ⟨w.heap.size + 1, 1, none⟩) (by show w.heap.size ≤ w.heap.size + 1; omega) _).setCell (p := ⟨w.heap.size + 1, 2, none⟩) (by show w.heap.size ≤ w.heap.size + 1; omega) _).setCell (p := ⟨w.heap.size + 1 + 1, 0, none⟩) (by show w.heap.size ≤ w.heap.size + 1 + 1; omega) _
      have hko : KeepsOthers Wx WE := by rw [hWE]; exact (((KeepsOthers.setCell _ _ _).trans (KeepsOthers.setCell _ _ _)).trans (KeepsOthers.setCell _ _ _)).trans (KeepsOthers.setCell _ _ _)
      exact ⟨hko.from _, ⟨rfl, HZt.out, ⟨g1, _, g2, nf, fl⟩, hold⟩⟩
  case done =>
    rintro xs Wx hS hI hK
    obtain ⟨D, sl, hD3, hns⟩ := hI.nums
    obtain ⟨a0, q0, e0⟩ := own_shape5 (hns.row 0 (by omega))
    obtain ⟨a1, q1, e1⟩ := own_shape5 (hns.row 1 (by omega))
    obtain ⟨a2, q2, e2⟩ := own_shape5 (hns.row 2 (by omega))
    obtain ⟨n0, hn0⟩ : ∃ n0, n0 = (numL xs 0).length := ⟨_, rfl⟩
    obtain ⟨n1, hn1⟩ : ∃ n1, n1 = (numL xs 1).length := ⟨_, rfl⟩
    obtain ⟨n2, hn2⟩ : ∃ n2, n2 = (numL xs 2).length := ⟨_, rfl⟩
    obtain rfl : D = #[.slice a0 n0 q0, .slice a1 n1 q1, .slice a2 n2 q2] := by
      match D, hD3, hns.at_ 0 (by omega), hns.at_ 1 (by omega), hns.at_ 2 (by omega) with
      | ⟨[d0, d1, d2]⟩, _, h0, h1, h2 =>
        have h0' : d0 = sl 0 := by simpa using h0
        have h1' : d1 = sl 1 := by simpa using h1
        have h2' : d2 = sl 2 := by simpa using h2
        rw [h0', h1', h2', e0, e1, e2, hn0, hn1, hn2]
    have HI := hide (And.intro hI (And.intro hK hns))
    have HSx := hide hS
    have b0 : Wx.cell? ⟨w.heap.size + 1 + 1 + 1, 0, none⟩ = some (.slice a0 n0 q0) := (hns.box.cell 0).trans rfl
    have b1 : Wx.cell? ⟨w.heap.size + 1 + 1 + 1, 1, none⟩ = some (.slice a1 n1 q1) := (hns.box.cell 1).trans rfl
    have b2 : Wx.cell? ⟨w.heap.size + 1 + 1 + 1, 2, none⟩ = some (.slice a2 n2 q2) := (hns.box.cell 2).trans rfl
    have c10 := (hI.res1.cell 0).trans (show _ = some (.slice none 0 0) from rfl)
    have c11 := (hI.res1.cell 1).trans (show _ = some (.slice none 0 0) from rfl)
    have c12 := (hI.res1.cell 2).trans (show _ = some (.slice none 0 0) from rfl)
    have f1 := hI.res1.frozen 0
    have f11 := hI.res1.frozen 1
    have f12 := hI.res1.frozen 2
    have c2 := (hI.res2.cell 0).trans (show _ = some .nilIface from rfl)
    have f2 := hI.res2.frozen 0
    clear hI hK hS hns e0 e1 e2 hn0 hn1 hn2 hD3
    gi_wp2
    have hZ0 : Z.2 = false ∧ xs = upX Z.1 := by
      rcases HSx.out with h | ⟨h, x, hx⟩
      · exact h
      · exfalso
        obtain ⟨A, hA, hp⟩ := HI.out.1.told
        have h1 := congrArg List.length (hx.symm.trans hA)
        have h2 := hp.length_le
        unfold upX at h1
        simp at h1
        omega
    obtain ⟨hZ1, rfl⟩ := hZ0
    obtain ⟨WE, hWE⟩ : ∃ WE, WE = (((Wx.setCell ⟨w.heap.size + 1, 0, none⟩ (.slice a0 n0 q0)).setCell ⟨w.heap.size + 1, 1, none⟩ (.slice a1 n1 q1)).setCell ⟨w.heap.size + 1, 2, none⟩ (.slice a2 n2 q2)).setCell ⟨w.heap.size + 1 + 1, 0, none⟩ .nilIface := ⟨_, rfl⟩
    rw [← hWE]
    have k1 := HI.out.1.res1
    have s1 := k1.set 0 (.slice a0 n0 q0)
    have s2 := s1.set 1 (.slice a1 n1 q1)
    have s3 := s2.set 2 (.slice a2 n2 q2)
    have r2 := ((HI.out.1.res2.other ⟨w.heap.size + 1, 0, none⟩ (.slice a0 n0 q0) (by show w.heap.size + 2 ≠ w.heap.size + 1; omega)).other ⟨w.heap.size + 1, 1, none⟩ (.slice a1 n1 q1) (by show w.heap.size + 2 ≠ w.heap.size + 1; omega)).other ⟨w.heap.size + 1, 2, none⟩ (.slice a2 n2 q2) (by show w.heap.size + 2 ≠ w.heap.size + 1; omega)
    have g1 : Blk WE (w.heap.size + 1) #[.slice a0 n0 q0, .slice a1 n1 q1, .slice a2 n2 q2] 106 := by rw [hWE]; exact s3.other _ _ (by show w.heap.size + 1 ≠ w.heap.size + 1 + 1; omega)
    have g2 : Blk WE (w.heap.size + 1 + 1) #[.nilIface] 62 := by rw [hWE]; exact r2.set 0 _
    have hns : NumS WE w.heap.size (w.heap.size + 1) 0 #[.slice a0 n0 q0, .slice a1 n1 q1, .slice a2 n2 q2] 106 sl (numL (upX Z.1)) := ⟨g1, HI.out.2.2.at_, fun l hl => by rw [hWE]; exact own_setT (own_setT (own_setT (own_setT (HI.out.2.2.row l hl) k1 (by decide)) s1 (by decide)) s2 (by decide)) r2 (by decide), HI.out.2.2.apart⟩
    have hD : WE.heap[WL.heap.size]? = some (.deferred (some [])) := by rw [hWE]; exact (KeepsOthers.setCell _ _ _).same _ _ ((KeepsOthers.setCell _ _ _).same _ _ ((KeepsOthers.setCell _ _ _).same _ _ ((KeepsOthers.setCell _ _ _).same _ _ HI.out.2.1 rfl) rfl) rfl) rfl
    have hbE : Below w.heap.size w WE := by
      rw [hWE]
      exact (((HI.out.1.old.setCell (p := ⟨w.heap.size + 1, 0, none⟩) (by show w.heap.size ≤ w.heap.size + 1; omega) _).setCell (p := ⟨w.heap.size + 1, 1, none⟩) (by show w.heap.size ≤ w.heap.size + 1; omega) _).setCell (p := ⟨w.heap.size + 1, 2, none⟩) (by show w.heap.size ≤ w.heap.size + 1; omega) _).setCell (p := ⟨w.heap.size + 1 + 1, 0, none⟩) (by show w.heap.size ≤ w.heap.size + 1 + 1; omega) _
    refine ⟨by simp, .inl ⟨_, _, rfl, run_takeDeferred hD, ?_⟩⟩
    refine ⟨_, results_nums rfl _ _ (w.heap.size + 1) (w.heap.size + 1 + 1) _ _ rfl rfl (blk_put _ g1 hD rfl) rfl (blk_put _ g2 hD rfl), _, _, rfl, rfl, .inl ⟨hZ1, rfl, w.heap.size + 1, sl, ?_⟩, ?_⟩
    · exact hns.abide (z := 0) (grownBy_putObj' _ _ _) (fun r e => by cases e; exact ⟨Nat.zero_le _, _, hD, rfl⟩)
    · exact hbE.trans (belowK_b (w := w) (Nat.le_refl _) WE WL.heap.size _ (.deferred none) (by omega) hD rfl rfl)
  case stop =>
    rintro c pre Wx _ ⟨rfl, hZ2, ⟨v, h3, h4, n, h5⟩, h6⟩ hK
    have HI := hide (And.intro hZ2 (And.intro h3 (And.intro h4 (And.intro h5 (And.intro h6 hK)))))
    clear hZ2 h3 h4 h5 h6 hK
    gi_wp2
    have hD := HI.out.2.2.2.2.2
    refine ⟨by simp, .inl ⟨_, _, rfl, run_takeDeferred hD, ?_⟩⟩
    refine ⟨_, results_nums rfl _ _ (w.heap.size + 1) (w.heap.size + 1 + 1) _ _ rfl rfl (blk_put _ HI.out.2.1 hD rfl) rfl (blk_put _ HI.out.2.2.1 hD rfl), _, _, rfl, rfl, .inr ⟨HI.out.1, by simp only [List.all_toArray, List.all_cons, List.all_nil]; rfl, n, ?_⟩, ?_⟩
    · exact flt_abide (z := 0) HI.out.2.2.2.1 (grownBy_putObj' _ _ _) (fun r e => by cases e; exact ⟨Nat.zero_le _, _, hD, rfl⟩)
    · exact HI.out.2.2.2.2.1.trans (belowK_b (w := w) (Nat.le_refl _) Wx WL.heap.size _ (.deferred none) (by omega) hD rfl rfl)
end Go.Proofs.YtlimollpocagiaaGreatDoor
