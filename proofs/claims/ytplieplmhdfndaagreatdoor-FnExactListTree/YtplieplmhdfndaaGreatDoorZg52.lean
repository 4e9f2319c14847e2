/- The law on ListTree, walked. -/
import Derived.Test.YtplieplmhdfndaaGreatDoorZg41
import Derived.Test.YtplieplmhdfndaaGreatDoorZg50
import Derived.Test.YtplieplmhdfndaaGreatDoorZg51
namespace Go.Proofs.YtplieplmhdfndaaGreatDoor
set_option linter.unusedVariables false
set_option linter.unusedSimpArgs false
open Go.RowKit

theorem lt_same {P : Prop} {α : Type} {p q x y : α} (h1 : P → p = x) (h2 : ¬ P → p = y) (h3 : P → q = x) (h4 : ¬ P → q = y) : p = q := by
  by_cases h : P
  · rw [h1 h, h3 h]
  · rw [h2 h, h4 h]
theorem OwnN.rng {W : World} {base : Nat} {e : TypeId} {m : Nat} {v : Value} {L : List NE} {vs : List Value} (h : OwnN W base e m v L vs) : (∀ b, v.ownBlock = some b → base ≤ b ∧ b < W.heap.size) ∧ (∀ u ∈ vs, ∀ b, u.ownBlock = some b → base ≤ b ∧ b < W.heap.size) := by
  refine ⟨fun b hb => h.row.lt b hb, fun u hu b hb => ?_⟩
  obtain ⟨i, hi⟩ := List.getElem?_of_mem hu
  have hl : i < L.length := by rw [← h.len]; exact (List.getElem?_eq_some_iff.1 hi).1
  exact (h.dat i u _ hi (List.getElem?_eq_getElem hl)).lt b hb
theorem KpN.own {w w' : World} {v : Value} {vs : List Value} (h : KpN w w' v vs) {base e sz n : Nat} {u : Value} {xs : List Value} (ho : w.ownsRow base e sz u n xs) (h1 : ∀ b, u.ownBlock = some b → v.ownBlock ≠ some b) (h2 : ∀ b, u.ownBlock = some b → ∀ y ∈ vs, y.ownBlock ≠ some b) : w'.ownsRow base e sz u n xs := by
  refine ⟨ho.1, ?_⟩
  rcases ho.2 with hn | ⟨g, cap, cur, rfl, hg, hgg, rest⟩
  · exact .inl hn
  · exact .inr ⟨g, cap, cur, rfl, hg, by rw [h.block g (Array.getElem?_eq_some_iff.1 hgg).1 (h1 g rfl) (h2 g rfl)]; exact hgg, rest⟩
theorem KpN.lowB {w0 w w' : World} {B : Nat} {v : Value} {vs : List Value} (h : KpN w w' v vs) (hb : Below B w0 w) (hB : B ≤ w.heap.size) (h1 : ∀ b, v.ownBlock = some b → B ≤ b) (h2 : ∀ u ∈ vs, ∀ b, u.ownBlock = some b → B ≤ b) : Below B w0 w' :=
  hb.trans ⟨h.os, h.tape, h.output, h.size, fun k hk => h.block k (Nat.lt_of_lt_of_le hk hB) (fun e => by have := h1 k e; omega) (fun u hu e => by have := h2 u hu k e; omega)⟩
set_option maxRecDepth 100000 in
set_option maxHeartbeats 8000000 in
theorem lawLt (C : Int) (v : Value) (L : List Nd) (us : List Value) (w : World) (h : RdN w 9 v (L.map ndE) us) (hbd : ∀ i, i < L.length → ∀ z ∈ (ndAt L i).d, 0 ≤ z ∧ z < 256) (hg : ErrT w) :
    Calls Tryz.prog 4 #[.agg #[.int .i64 C, v]] w fun e w' => e = .returned (.bool true) ∧ Below w.heap.size w w' := by
  obtain ⟨a, cap, rfl⟩ : ∃ a cap, v = .slice a L.length cap := by obtain ⟨a, cap, e, _⟩ := h.row; exact ⟨a, cap, by simpa using e⟩
  obtain ⟨N, hN⟩ : ∃ N, N = L.length := ⟨_, rfl⟩
  have HN := hide hN
  rw [← hN] at h ⊢
  have H := hide (And.intro h (And.intro hbd hg))
  have K0 := hide (And.intro (Blk.new w #[.int .i64 C, .slice a N cap] 24) (show Below w.heap.size w (w.alloc (.cells #[.int .i64 C, .slice a N cap] 24)) from (Below.refl _ _).alloc (Nat.le_refl _) _))
  clear h hbd hg hN
  go_enter Tryz.func4, Tryz.ntmps4
  go_wp2_with (first | (refine wpList_load_row rfl 24 _ rfl w.heap.size rfl 24 #[.int .i64 C, .slice a N cap] (0, 0) _ K0.out.1 Tryz.underlying24 rfl infoStL ?_) | fail)
  refine (szState_any C _ L us _ (H.out.1.below K0.out.2)).mono ?_
  rintro e w1 ⟨l, rfl, hl, b1⟩
  have K1 := hide (And.intro (K0.out.1.below b1 K0.out.1.lt) (K0.out.2.trans (b1.mono K0.out.2.size)))
  clear b1 K0
  by_cases hl0 : l < 0
  · go_wp2
    go_ret
    exact ⟨rfl, K1.out.2⟩
  · obtain ⟨hq, hT⟩ := hl (by omega)
    have HB := hide (And.intro hq (And.intro (show ∀ i, i < L.length → (ndAt L i).d.length ≤ 1048576 from fun i hi => Nat.le_trans (nd_tot L i hi) hT) (show totN L ≤ 1099511627776 by omega)))
    clear hl hT hq
    go_wp2_with (first | (refine wpList_load_row rfl 24 _ rfl w.heap.size rfl 24 #[.int .i64 C, .slice a N cap] (0, 0) _ K1.out.1 Tryz.underlying24 rfl infoStL ?_) | fail)
    refine (toState_any C _ L us _ (H.out.1.below K1.out.2) HB.out.1 HB.out.2.1).mono ?_
    rintro e w2 ⟨v1, vs1, rfl, o1, b2⟩
    obtain ⟨a1, c1, rfl⟩ : ∃ a c, v1 = .slice a N c := by obtain ⟨x, y, e⟩ := o1.shape; exact ⟨x, y, by rw [HN.out]; simpa using e⟩
    have K2 := hide (And.intro (K1.out.1.below b2 K1.out.1.lt) (K1.out.2.trans (b2.mono K1.out.2.size)))
    have R1 := hide o1.rd
    clear b2 o1 K1
    go_wp2_with fail
    refine (specLt_any C _ L vs1 _ R1.out HB.out.1 H.out.2.1).mono ?_
    rintro e w3 ⟨v0, Z, cw, rfl, ow, hzl, hw1, hw2, b3⟩
    have K3 := hide (And.intro (K2.out.1.below b3 K2.out.1.lt) (K2.out.2.trans (b3.mono K2.out.2.size)))
    have HW := hide (And.intro hw1 hw2)
    have W3 := hide ow
    have LW := hide (fun b (hb : v0.ownBlock = some b) => ow.lt b hb)
    have Z3 := hide (show w2.heap.size ≤ w3.heap.size from b3.size)
    have Z2 := hide (show w.heap.size < w2.heap.size from K2.out.1.lt)
    clear b3 K2 R1 hw1 hw2 ow
    go_wp2_with (first | (refine wpList_load_row rfl 24 _ rfl w.heap.size rfl 24 #[.int .i64 C, .slice a N cap] (0, 0) _ K3.out.1 Tryz.underlying24 rfl infoStL ?_) | fail)
    refine (toState_any C _ L us _ (H.out.1.below K3.out.2) HB.out.1 HB.out.2.1).mono ?_
    rintro e w4 ⟨vx, vsx, rfl, ox, b4⟩
    obtain ⟨ax, cx, rfl⟩ : ∃ a c, vx = .slice a N c := by obtain ⟨x, y, e⟩ := ox.shape; exact ⟨x, y, by rw [HN.out]; simpa using e⟩
    have K4 := hide (And.intro (K3.out.1.below b4 K3.out.1.lt) (K3.out.2.trans (b4.mono K3.out.2.size)))
    have X4 := hide ox
    have RX := hide ox.rng
    have W4 := hide (own_below W3.out b4)
    have Z4 := hide (show w3.heap.size ≤ w4.heap.size from b4.size)
    clear b4 ox K3 W3
    have KX := hide (show Blk (w4.alloc (.cells #[.int .i64 0, .slice none 0 0] 29)) w4.heap.size #[.int .i64 0, .slice none 0 0] 29 ∧ Below w4.heap.size w4 (w4.alloc (.cells #[.int .i64 0, .slice none 0 0] 29)) from ⟨Blk.new _ _ _, (Below.refl _ _).alloc (Nat.le_refl _) _⟩)
    go_wp2_with (first | (refine wpList_store_row rfl 29 _ _ rfl w4.heap.size #[.int .i64 C, .slice ax N cx] rfl rfl 29 _ KX.out.1 infoStP rfl (oneSt _ _ _ _) ?_) | (refine wpList_load_row rfl 29 _ rfl w4.heap.size rfl 29 #[.int .i64 C, .slice ax N cx] (0, 0) _ (KX.out.1.row _) Tryz.underlying29 rfl infoStP ?_) | fail)
    have b5 := hide (below_setRowS KX.out.2 (Nat.le_refl _) #[.int .i64 C, .slice ax N cx])
    have K5 := hide (show Blk ((w4.alloc (.cells #[.int .i64 0, .slice none 0 0] 29)).setRow w4.heap.size #[.int .i64 C, .slice ax N cx]) w4.heap.size #[.int .i64 C, .slice ax N cx] 29 from KX.out.1.row _)
    generalize (w4.alloc (.cells #[.int .i64 0, .slice none 0 0] 29)).setRow w4.heap.size #[.int .i64 C, .slice ax N cx] = w5 at b5 K5 ⊢
    obtain ⟨bx, hbx⟩ : ∃ bx, bx = w4.heap.size := ⟨_, rfl⟩
    rw [← hbx] at K5 ⊢
    have B5 := hide (And.intro (K4.out.1.below b5.out K4.out.1.lt) (K4.out.2.trans (b5.out.mono K4.out.2.size)))
    have X5 := hide (X4.out.below b5.out)
    clear hbx
    have W5 := hide (own_below W4.out b5.out)
    have Z5 := hide (show w4.heap.size ≤ w5.heap.size from b5.out.size)
    clear W4
    refine (implLt_any C (.slice ax N cx) L vsx _ X5.out.rd HB.out.2.2 HB.out.1 H.out.2.1 X5.out.nilV (H.out.2.2.below B5.out.2)).mono ?_
    rintro e w6 ⟨g0, Zg, cg, rfl, og, hgl, hg1, hg2, b6⟩
    have eg : (Zg, cg) = (Z, cw) := lt_same hg1 hg2 HW.out.1 HW.out.2
    injection eg with eg1 eg2
    subst eg1
    subst eg2
    have G6 := hide og
    have LG := hide (fun b (hb : g0.ownBlock = some b) => og.lt b hb)
    have W6 := hide (own_below W5.out b6)
    have hcc : (cg != cg) = false := by simp
    have B6 := hide (show Blk w6 w.heap.size #[.int .i64 C, .slice a N cap] 24 ∧ Blk w6 bx #[.int .i64 C, .slice ax N cx] 29 ∧ Below w.heap.size w w6 from ⟨B5.out.1.below b6 B5.out.1.lt, K5.out.below b6 K5.out.lt, B5.out.2.trans (b6.mono B5.out.2.size)⟩)
    have X6 := hide (X5.out.below b6)
    clear b6 b5 B5 X5 K5 K4 KX X4 hg1 hg2 og W5
    go_wp2_with fail
    refine (eqFoundS_same _ _ g0 v0 Zg _ G6.out W6.out hgl).mono ?_
    rintro e w7 ⟨rfl, b7⟩
    have B7 := hide (show Blk w7 w.heap.size #[.int .i64 C, .slice a N cap] 24 ∧ Blk w7 bx #[.int .i64 C, .slice ax N cx] 29 ∧ Below w.heap.size w w7 from ⟨B6.out.1.below b7 B6.out.1.lt, B6.out.2.1.below b7 B6.out.2.1.lt, B6.out.2.2.trans (b7.mono B6.out.2.2.size)⟩)
    have X7 := hide (X6.out.below b7)
    have W7 := hide (own_below W6.out b7)
    have G7 := hide (own_below G6.out b7)
    clear b7 B6 X6 W6 G6
    go_wp2_with fail
    refine wp_region_noPanic ?_
    refine wp_region_held_drew (S := fun w' => Blk w' bx #[.int .i64 C, .slice ax N cx] 29 ∧ Blk w' w.heap.size #[.int .i64 C, .slice a N cap] 24) (by kernel_rfl) ⟨B7.out.2.1, B7.out.1⟩ (fun hH => ?_)
    refine wpAnyH_take (i := 0) (oi := _) (v := .agg #[.int .i64 C, .slice ax N cx]) rfl (by kernel_rfl) (by kernel_rfl) (by kernel_rfl) (fun _ _ _ h => h) (yieldsIf_load_mid (by rfl) 29 _ rfl bx 0 rfl [.int .i64 C, .slice ax N cx] _ (fun w' h => st_full h.1) Tryz.underlying29 rfl infoStP) hH ?_
    try simp only [Act.put, List.getElem_toArray, List.getElem_cons_zero, List.getElem_cons_succ, List.setIfInBounds_toArray, List.set_cons_zero, List.set_cons_succ]
    refine wpAnyH_take (i := 1) (oi := _) (v := .agg #[.int .i64 C, .slice a N cap]) rfl (by kernel_rfl) (by kernel_rfl) (by kernel_rfl) (fun _ _ _ h => h) (yieldsIf_load_mid (by rfl) 24 _ rfl w.heap.size 0 rfl [.int .i64 C, .slice a N cap] _ (fun w' h => st_full h.2) Tryz.underlying24 rfl infoStL) hH ?_
    try simp only [Act.put, List.getElem_toArray, List.getElem_cons_zero, List.getElem_cons_succ, List.setIfInBounds_toArray, List.set_cons_zero, List.set_cons_succ]
    have BD := hide (show Below w7.heap.size w7 w7.drew from (Below.refl _ _).drew)
    refine wpAnyH_ready (rs := [2]) (by kernel_rfl) (by simp) ?_
    refine AllReadyH.cons (o := _) rfl (fun K hK => ?_) AllReadyH.nil
    go_simp
    refine (toState_any C _ L us _ (H.out.1.below (B7.out.2.2.trans (BD.out.mono B7.out.2.2.size))) HB.out.1 HB.out.2.1).mono ?_
    rintro e w8 ⟨v8, vs8, rfl, o8, b8⟩
    have B8 := hide (BD.out.trans b8)
    have R8 := hide o8.rd
    clear o8 b8
    have S8 := hide (And.intro (B7.out.2.1.below B8.out B7.out.2.1.lt) (B7.out.1.below B8.out B7.out.1.lt))
    refine hK.out _ _ S8.out (fun hH => ?_)
    clear hK K
    try simp only [Act.put, List.getElem_toArray, List.getElem_cons_zero, List.getElem_cons_succ, List.setIfInBounds_toArray, List.set_cons_zero, List.set_cons_succ]
    refine wpAnyH_ready (rs := [3]) (by kernel_rfl) (by simp) ?_
    refine AllReadyH.cons (o := _) rfl (fun K hK => ?_) AllReadyH.nil
    go_simp
    refine (eqState_same C (.slice ax N cx) v8 L vsx vs8 _ (X7.out.below B8.out).rd R8.out).mono ?_
    rintro e w9 ⟨rfl, b9⟩
    have B9 := hide (B8.out.trans (b9.mono B8.out.size))
    refine hK.out _ _ ⟨B7.out.2.1.below B9.out B7.out.2.1.lt, B7.out.1.below B9.out B7.out.1.lt⟩ (fun hH => ?_)
    clear hK K b9 B8 S8 R8
    try simp only [Act.put, List.getElem_toArray, List.getElem_cons_zero, List.getElem_cons_succ, List.setIfInBounds_toArray, List.set_cons_zero, List.set_cons_succ]
    refine wpAnyH_take (i := 4) (oi := _) (v := .bool false) rfl (by kernel_rfl) (by kernel_rfl) (by kernel_rfl) (fun _ _ _ h => h) (Or.inl ⟨by rfl, fun w' hw' => by go_simp⟩) hH ?_
    try simp only [Act.put, List.getElem_toArray, List.getElem_cons_zero, List.getElem_cons_succ, List.setIfInBounds_toArray, List.set_cons_zero, List.set_cons_succ]
    refine wpAnyH_done (by kernel_rfl) (NoPanic.normal ?_) _
    clear hH
    have C9 := hide (show Blk w9 w.heap.size #[.int .i64 C, .slice a N cap] 24 ∧ Blk w9 bx #[.int .i64 C, .slice ax N cx] 29 ∧ Below w.heap.size w w9 from ⟨B7.out.1.below B9.out B7.out.1.lt, B7.out.2.1.below B9.out B7.out.2.1.lt, B7.out.2.2.trans (B9.out.mono B7.out.2.2.size)⟩)
    have X9 := hide (X7.out.below B9.out)
    have W9 := hide (own_below W7.out B9.out)
    have G9 := hide (own_below G7.out B9.out)
    clear B7 X7 B9 BD W7 G7
    go_wp2_with (first | (refine wpList_load_row rfl 29 _ rfl bx rfl 29 #[.int .i64 C, .slice ax N cx] (0, 0) _ C9.out.2.1 Tryz.underlying29 rfl infoStP ?_) | fail)
    refine (markState_any C (.slice ax N cx) _ 1 L vsx _ X9.out (by omega) HB.out.1 HB.out.2.2).mono ?_
    rintro e w10 ⟨K, rfl, hK, _, k10⟩
    have hKb : K ≤ 1100000000000 := by have := HB.out.1; have := HB.out.2.2; omega
    have C10 := hide (show Blk w10 w.heap.size #[.int .i64 C, .slice a N cap] 24 ∧ Below w.heap.size w w10 from ⟨(k10.block _ C9.out.1.lt (fun e => by have := (RX.out.1 _ e).1; have := Z2.out; have := Z3.out; omega) (fun u hu e => by have := (RX.out.2 u hu _ e).1; have := Z2.out; have := Z3.out; omega)).trans C9.out.1, k10.lowB C9.out.2.2 C9.out.2.2.size (fun b e => by have := (RX.out.1 _ e).1; have := Z2.out; have := Z3.out; omega) (fun u hu b e => by have := (RX.out.2 u hu _ e).1; have := Z2.out; have := Z3.out; omega)⟩)
    have W10 := hide (k10.own W9.out (fun b e e' => by have := (LW.out b e).2; have := (RX.out.1 _ e').1; omega) (fun b e u hu e' => by have := (LW.out b e).2; have := (RX.out.2 u hu _ e').1; omega))
    have G10 := hide (k10.own G9.out (fun b e e' => by have := (LG.out b e).1; have := (RX.out.1 _ e').2; have := Z5.out; omega) (fun b e u hu e' => by have := (LG.out b e).1; have := (RX.out.2 u hu _ e').2; have := Z5.out; omega))
    clear k10 C9 X9 W9 G9 hK RX
    go_wp2_with fail
    refine (eqFoundS_same _ _ g0 v0 Zg _ G10.out W10.out hgl).mono ?_
    rintro e w11 ⟨rfl, b11⟩
    have C11 := hide (And.intro (C10.out.1.below b11 C10.out.1.lt) (C10.out.2.trans (b11.mono C10.out.2.size)))
    have W11 := hide (own_below W10.out b11)
    have G11 := hide (own_below G10.out b11)
    clear b11 C10 W10 G10
    obtain ⟨M, hM⟩ : ∃ K : Nat, K = 1 + 2 * Zg.length := ⟨_, rfl⟩
    have hMb : M ≤ 1048577 := by omega
    have HM := hide hM
    clear hM
    go_wp2_with fail
    refine (markFoundS_any g0 _ Zg _ G11.out hgl).mono ?_
    rintro e w12 ⟨he, o12, g12⟩
    rw [← HM.out] at he
    subst he
    have C12 := hide (show Blk w12 w.heap.size #[.int .i64 C, .slice a N cap] 24 ∧ Below w.heap.size w w12 from ⟨(g12.block _ C11.out.1.lt (fun e => by have := (LG.out _ e.symm).1; have := Z2.out; have := Z3.out; have := Z4.out; have := Z5.out; omega)).trans C11.out.1, C11.out.2.grown g12 C11.out.2.size (fun k hk => by have := (LG.out _ hk).1; have := Z2.out; have := Z3.out; have := Z4.out; have := Z5.out; omega)⟩)
    have W12 := hide (W11.out.kept g12 (apart2 LW.out LG.out (by have := Z2.out; have := Z3.out; have := Z4.out; have := Z5.out; omega)))
    have G12 := hide o12
    clear o12 g12 C11 W11 G11
    go_wp2_with fail
    refine (heldFoundS_any g0 _ Zg.length _ G12.out hgl).mono ?_
    rintro e w13 ⟨he, b13⟩
    rw [← HM.out] at he
    subst he
    have C13 := hide (And.intro (C12.out.1.below b13 C12.out.1.lt) (C12.out.2.trans (b13.mono C12.out.2.size)))
    have W13 := hide (own_below W12.out b13)
    have G13 := hide (own_below G12.out b13)
    clear b13 C12 W12 G12
    have hmm : ((M : Int) != (M : Int)) = false := by simp
    go_wp2_with (first | (refine wpList_load_row rfl 24 _ rfl w.heap.size rfl 24 #[.int .i64 C, .slice a N cap] (0, 0) _ C13.out.1 Tryz.underlying24 rfl infoStL ?_) | fail)
    refine (toState_any C _ L us _ (H.out.1.below C13.out.2) HB.out.1 HB.out.2.1).mono ?_
    rintro e w14 ⟨v14, vs14, rfl, o14, b14⟩
    obtain ⟨a14, c14, rfl⟩ : ∃ a c, v14 = .slice a N c := by obtain ⟨x, y, e⟩ := o14.shape; exact ⟨x, y, by rw [HN.out]; simpa using e⟩
    have C14 := hide (C13.out.2.trans (b14.mono C13.out.2.size))
    have W14 := hide (own_below W13.out b14)
    have G14 := hide (own_below G13.out b14)
    have R14 := hide o14
    clear b14 o14 C13 W13 G13
    go_wp2_with fail
    refine (implLt_any C _ L vs14 _ R14.out.rd HB.out.2.2 HB.out.1 H.out.2.1 R14.out.nilV (H.out.2.2.below C14.out)).mono ?_
    rintro e w15 ⟨h0, Zh, ch, rfl, oh, hhl, hh1, hh2, b15⟩
    have eh : (Zh, ch) = (Zg, cg) := lt_same hh1 hh2 HW.out.1 HW.out.2
    injection eh with eh1 eh2
    subst eh1
    subst eh2
    have C15 := hide (C14.out.trans (b15.mono C14.out.size))
    have W15 := hide (own_below W14.out b15)
    have G15 := hide (own_below G14.out b15)
    have H15 := hide oh
    clear b15 oh C14 W14 G14 R14 hh1 hh2
    go_wp2_with fail
    refine (eqFoundS_same _ _ h0 v0 Zh _ H15.out W15.out hhl).mono ?_
    rintro e w16 ⟨rfl, b16⟩
    have C16 := hide (C15.out.trans (b16.mono C15.out.size))
    have G16 := hide (own_below G15.out b16)
    clear b16 C15 W15 G15 H15
    go_wp2_with fail
    refine (heldFoundS_any g0 _ Zh.length _ G16.out hhl).mono ?_
    rintro e w17 ⟨he, b17⟩
    rw [← HM.out] at he
    subst he
    have C17 := hide (C16.out.trans (b17.mono C16.out.size))
    clear b17 C16 G16
    go_wp2
    go_ret
    exact ⟨rfl, C17.out⟩
end Go.Proofs.YtplieplmhdfndaaGreatDoor
