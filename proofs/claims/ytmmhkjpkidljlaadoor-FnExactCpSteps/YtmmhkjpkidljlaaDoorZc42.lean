/- The law on CpSteps, walked. -/
import Derived.Test.YtmmhkjpkidljlaaDoorZc41
namespace Go.Proofs.YtmmhkjpkidljlaaDoor
set_option linter.unusedVariables false
set_option linter.unusedSimpArgs false
open Go.RowKit

/-- Block b holds the row or the bytes of an element. -/
def Bks (v : Value) (vs : List Value) (b : Nat) : Prop := v.ownBlock = some b ∨ ∃ u ∈ vs, u.ownBlock = some b
theorem OwnN.bks {W : World} {base : Nat} {e : TypeId} {m : Nat} {v : Value} {L : List NE} {vs : List Value} (h : OwnN W base e m v L vs) {b : Nat} (hb : Bks v vs b) : base ≤ b ∧ b < W.heap.size := by
  rcases hb with hb | ⟨u, hu, hb⟩
  · exact h.row.lt b hb
  · obtain ⟨i, hi⟩ := List.getElem?_of_mem hu
    exact h.ltN hi hb
theorem own_same {W W' : World} {base : Nat} {e : TypeId} {sz : Nat} {v : Value} {n : Nat} {xs : List Value} (h : W.ownsRow base e sz v n xs) (hs : ∀ b, v.ownBlock = some b → W'.heap[b]? = W.heap[b]?) : W'.ownsRow base e sz v n xs := by
  refine ⟨h.1, ?_⟩
  rcases h.2 with h0 | ⟨g, cap, cur, rfl, hb, hg, h1⟩
  · exact .inl h0
  · exact .inr ⟨g, cap, cur, rfl, hb, (hs g rfl).trans hg, h1⟩
theorem OwnN.keepN {W W' : World} {base : Nat} {e : TypeId} {m : Nat} {v v2 : Value} {L : List NE} {vs vs2 : List Value} (h : OwnN W base e m v L vs) (k : KpN W W' v2 vs2) (ap : ∀ b, Bks v vs b → ¬ Bks v2 vs2 b) : OwnN W' base e m v L vs := by
  have same : ∀ b, Bks v vs b → W'.heap[b]? = W.heap[b]? := fun b hb => k.block b (h.bks hb).2 (fun e => ap b hb (.inl e)) (fun u hu e => ap b hb (.inr ⟨u, hu, e⟩))
  exact ⟨h.len, h.pre, own_same h.row (fun b hb => same b (.inl hb)), fun i u l hu hl => own_same (h.dat i u l hu hl) (fun b hb => same b (.inr ⟨u, List.mem_of_getElem? hu, hb⟩)), h.one⟩
theorem Blk.keepN {W W' : World} {b : Nat} {c : Array Value} {t : TypeId} {v2 : Value} {vs2 : List Value} (h : Blk W b c t) (k : KpN W W' v2 vs2) (ap : ¬ Bks v2 vs2 b) : Blk W' b c t :=
  (k.block b h.lt (fun e => ap (.inl e)) (fun u hu e => ap (.inr ⟨u, hu, e⟩))).trans h
theorem KpN.low {w W W' : World} {B : Nat} {v2 : Value} {vs2 : List Value} (k : KpN W W' v2 vs2) (h : Below B w W) (hB : B ≤ W.heap.size) (ap : ∀ b, Bks v2 vs2 b → B ≤ b) : Below B w W' :=
  h.trans ⟨k.os, k.tape, k.output, k.size, fun b hb => k.block b (by omega) (fun e => by have := ap b (.inl e); omega) (fun u hu e => by have := ap b (.inr ⟨u, hu, e⟩); omega)⟩
theorem endN_bd (m M : Nat) : ∀ (L : List NE) (k : Nat), (∀ l ∈ L, l.2.length ≤ M) → endN m k L ≤ k + L.length * (m + M)
  | [], k, _ => by simp [endN]
  | l :: L, k, h => by
    have h1 := endN_bd m M L (k + m + l.2.length) (fun x hx => h x (by simp [hx]))
    have h2 := h l (by simp)
    have e : (l :: L).length * (m + M) = L.length * (m + M) + (m + M) := by simp [Nat.add_mul]
    rw [e]
    simp only [endN]
    omega
theorem steps_bd (Q : List (Int × List Int)) (enc : List Int) (r : Bool) (hq : Q.length ≤ 1048576) (hb : ∀ p ∈ Q, p.2.length ≤ 1048576) (he : enc.length ≤ 512) : endN 2 1 ((if r = true then stepsL Q enc 2 else []).map neD) ≤ 140737488355328 := by
  have hl : ((if r = true then stepsL Q enc 2 else []).map neD).length ≤ 1048581 := by
    split
    · rw [List.length_map, stepsL_len]; omega
    · simp
  refine Nat.le_trans (endN_bd 2 1048576 _ 1 (fun l hl => ?_)) (by omega)
  rw [List.mem_map] at hl
  obtain ⟨s, hs, rfl⟩ := hl
  split at hs
  · simp only [stepsL, recsL, recL, List.mem_append, List.mem_map, List.mem_cons, List.not_mem_nil, or_false, List.nil_append] at hs
    rcases hs with (⟨p, hp, rfl⟩ | rfl) | (rfl | rfl) | rfl | rfl
    · exact hb p hp
    all_goals (simp [neD]; try omega)
  · cases hs
theorem puts_bd (Q : List (Int × List Int)) (hq : Q.length ≤ 1048576) (hb : ∀ p ∈ Q, p.2.length ≤ 1048576) : endN 1 1 (Q.map neP) ≤ 140737488355328 := by
  refine Nat.le_trans (endN_bd 1 1048576 _ 1 (fun l hl => ?_)) (by rw [List.length_map]; omega)
  rw [List.mem_map] at hl
  obtain ⟨p, hp, rfl⟩ := hl
  exact hb p hp
theorem cp_full {w : World} {b : Nat} {v : Value} {F : List Int} {t : TypeId} (h : Blk w b (cpC v F) t) : w.rangeAt b 0 (v :: F.map (Value.int .i64)) := by
  intro j u hu
  rw [Nat.zero_add, h.cell j]
  simpa [cpC] using hu

set_option maxRecDepth 100000 in
set_option maxHeartbeats 16000000 in
theorem lawCps (v : Value) (Q : List (Int × List Int)) (us : List Value) (F : List Int) (r : Bool) (enc : List Int) (w : World) (h : RdN w 1 v (Q.map neP) us) (hF : FsK F r enc) (hg : ErrT w) (hL : LetF w) :
    Calls Tryd.prog 3 #[.agg (cpC v F)] w fun e w' => e = .returned (.bool true) ∧ Below w.heap.size w w' := by
  obtain ⟨a, cap, rfl⟩ : ∃ a cap, v = .slice a Q.length cap := by obtain ⟨a, cap, e, _⟩ := h.row; exact ⟨a, cap, by simpa using e⟩
  have H := hide (And.intro h (And.intro hF (And.intro hg hL)))
  have HZ := hide (fun v => cpC_size v F hF.len)
  have HZF := hide (show (Value.slice a Q.length cap :: F.map (Value.int .i64)).length = 69 by simp [hF.len])
  have hes := hF.small
  have K0 := hide (And.intro (Blk.new w (cpC (.slice a Q.length cap) F) 30) (show Below w.heap.size w (w.alloc (.cells (cpC (.slice a Q.length cap) F) 30)) from (Below.refl _ _).alloc (Nat.le_refl _) _))
  clear h hF hg hL
  go_enter Tryd.func3, Tryd.ntmps3
  go_wp2_with (first | (refine wpList_load_row rfl 30 _ rfl w.heap.size rfl 30 (cpC (.slice a Q.length cap) F) (0, 0) _ K0.out.1 Tryd.underlying30 rfl (by rw [HZ.out]; exact infoCL) ?_) | fail)
  refine (szCpOut_any _ Q us F _ (H.out.1.below K0.out.2)).mono ?_
  rintro e w1 ⟨l, rfl, hl, b1⟩
  have K1 := hide (And.intro (K0.out.1.below b1 K0.out.1.lt) (K0.out.2.trans (b1.mono K0.out.2.size)))
  clear b1 K0
  by_cases hl0 : l < 0
  · go_wp2
    go_ret
    exact ⟨rfl, K1.out.2⟩
  · obtain ⟨hq, hb⟩ := hl (by omega)
    have HB := hide hb
    have HE2 := hide (steps_bd Q enc r hq hb hes)
    have HE1 := hide (puts_bd Q hq hb)
    clear hl hb
    go_wp2_with (first | (refine wpList_load_row rfl 30 _ rfl w.heap.size rfl 30 (cpC (.slice a Q.length cap) F) (0, 0) _ K1.out.1 Tryd.underlying30 rfl (by rw [HZ.out]; exact infoCL) ?_) | fail)
    refine (toCpOut_any _ Q us F r enc _ (H.out.1.below K1.out.2) H.out.2.1 hq HB.out).mono ?_
    rintro e w2 ⟨v1, vs1, rfl, o1, b2⟩
    have K2 := hide (And.intro (K1.out.1.below b2 K1.out.1.lt) (K1.out.2.trans (b2.mono K1.out.2.size)))
    have R1 := hide o1.rd
    clear b2 o1 K1
    go_wp2_with fail
    refine (specCp_any v1 Q vs1 F r enc _ R1.out H.out.2.1 hq HB.out).mono ?_
    rintro e w3 ⟨sw, vw, rfl, ow, b3⟩
    have K3 := hide (And.intro (K2.out.1.below b3 K2.out.1.lt) (K2.out.2.trans (b3.mono K2.out.2.size)))
    have hw2 : w.heap.size < w2.heap.size := K2.out.1.lt
    have W3 := hide ow
    have hs23 := b3.size
    clear b3 ow K2 R1
    generalize hS : (if r = true then stepsL Q enc 2 else []) = S at *
    have HSS := hide hS
    generalize hCD : (if r = true then (0 : Int) else 7) = cd at *
    have HCD := hide hCD
    have hcd : (cd != cd) = false := by simp
    clear hS hCD
    go_wp2_with (first | (refine wpList_load_row rfl 30 _ rfl w.heap.size rfl 30 (cpC (.slice a Q.length cap) F) (0, 0) _ K3.out.1 Tryd.underlying30 rfl (by rw [HZ.out]; exact infoCL) ?_) | fail)
    refine (toCpOut_any _ Q us F r enc _ (H.out.1.below K3.out.2) H.out.2.1 hq HB.out).mono ?_
    rintro e w4 ⟨vx, vsx, rfl, ox, b4⟩
    obtain ⟨ax, cx, rfl⟩ : ∃ a c, vx = .slice a Q.length c := by obtain ⟨x, y, e⟩ := own_shape ox.row; exact ⟨x, y, by simpa using e⟩
    have K4 := hide (And.intro (K3.out.1.below b4 K3.out.1.lt) (K3.out.2.trans (b4.mono K3.out.2.size)))
    have W4 := hide (And.intro (W3.out.below b4) (fun b (hb : Bks sw vw b) => (W3.out.bks hb)))
    have X4 := hide (And.intro ox (fun b (hb : Bks (.slice ax Q.length cx) vsx b) => (ox.bks hb)))
    have hs34 := b4.size
    clear b4 ox K3 W3
    have KX := hide (show Blk (w4.alloc (.cells (cpC (.slice none 0 0) (List.replicate 68 0)) 40)) w4.heap.size (cpC (.slice none 0 0) (List.replicate 68 0)) 40 ∧ Below w4.heap.size w4 (w4.alloc (.cells (cpC (.slice none 0 0) (List.replicate 68 0)) 40)) from ⟨Blk.new _ _ _, (Below.refl _ _).alloc (Nat.le_refl _) _⟩)
    rw [← zeroCp] at KX
    go_wp2_with (first | (refine wpList_store_row rfl 40 _ _ rfl w4.heap.size (cpC (.slice ax Q.length cx) F) rfl rfl 40 _ KX.out.1 (by rw [HZ.out]; exact infoC69) (by rw [zeroCp, HZ.out, cpC_size _ _ (by simp)]) (cpC_one _ _ _ _) ?_) | (refine wpList_load_row rfl 40 _ rfl w4.heap.size rfl 40 (cpC (.slice ax Q.length cx) F) (0, 0) _ (KX.out.1.row _) Tryd.underlying40 rfl (by rw [HZ.out]; exact infoC69) ?_) | fail)
    have b5 := hide (below_setRow KX.out.2 (Nat.le_refl _) (cpC (.slice ax Q.length cx) F))
    have K5 := hide (show Blk ((w4.alloc (.cells Tryd.zeroCells40 40)).setRow w4.heap.size (cpC (.slice ax Q.length cx) F)) w4.heap.size (cpC (.slice ax Q.length cx) F) 40 from KX.out.1.row _)
    generalize (w4.alloc (.cells Tryd.zeroCells40 40)).setRow w4.heap.size (cpC (.slice ax Q.length cx) F) = w5 at b5 K5 ⊢
    obtain ⟨bx, hbx⟩ : ∃ bx, bx = w4.heap.size := ⟨_, rfl⟩
    rw [← hbx] at K5 ⊢
    have B5 := hide (And.intro (K4.out.1.below b5.out K4.out.1.lt) (K4.out.2.trans (b5.out.mono K4.out.2.size)))
    have W5 := hide (W4.out.1.below b5.out)
    have X5 := hide (X4.out.1.below b5.out)
    have hs45 : w4.heap.size < w5.heap.size := by rw [← hbx]; exact K5.out.lt
    have HBX := hide hbx
    clear hbx
    refine (implCp_any (.slice ax Q.length cx) Q vsx F r enc _ X5.out.rd H.out.2.1 hq HB.out (H.out.2.2.1.below B5.out.2) (H.out.2.2.2.below B5.out.2)).mono ?_
    rintro e w6 ⟨sg, vg, rfl, og, b6⟩
    rw [HSS.out] at og
    rw [HCD.out]
    have B6 := hide (show Blk w6 w.heap.size (cpC (.slice a Q.length cap) F) 30 ∧ Blk w6 bx (cpC (.slice ax Q.length cx) F) 40 ∧ Below w.heap.size w w6 from ⟨B5.out.1.below b6 B5.out.1.lt, K5.out.below b6 K5.out.lt, B5.out.2.trans (b6.mono B5.out.2.size)⟩)
    have W6 := hide (W5.out.below b6)
    have X6 := hide (X5.out.below b6)
    have G6 := hide (And.intro og (fun b (hb : Bks sg vg b) => (og.bks hb)))
    clear og b6 b5 B5 W5 X5 K5 K4 KX
    go_wp2_with fail
    refine (eqDiskOpS_same sg sw S vg vw _ G6.out.1.rd W6.out.rd).mono ?_
    rintro e w7 ⟨rfl, b7⟩
    have B7 := hide (show Blk w7 w.heap.size (cpC (.slice a Q.length cap) F) 30 ∧ Blk w7 bx (cpC (.slice ax Q.length cx) F) 40 ∧ Below w.heap.size w w7 from ⟨B6.out.1.below b7 B6.out.1.lt, B6.out.2.1.below b7 B6.out.2.1.lt, B6.out.2.2.trans (b7.mono B6.out.2.2.size)⟩)
    have W7 := hide (W6.out.below b7)
    have X7 := hide (X6.out.below b7)
    have G7 := hide (G6.out.1.below b7)
    clear b7 B6 W6 X6
    go_wp2_with fail
    refine wp_region_noPanic ?_
    refine wp_region_held_drew (S := fun w' => Blk w' bx (cpC (.slice ax Q.length cx) F) 40 ∧ Blk w' w.heap.size (cpC (.slice a Q.length cap) F) 30) (by kernel_rfl) ⟨B7.out.2.1, B7.out.1⟩ (fun hH => ?_)
    refine wpAnyH_take (i := 0) (oi := _) (v := .agg (cpC (.slice ax Q.length cx) F)) rfl (by kernel_rfl) (by kernel_rfl) (by kernel_rfl) (fun _ _ _ h => h) (yieldsIf_load_mid (by rfl) 40 _ rfl bx 0 rfl ((.slice ax Q.length cx) :: F.map (Value.int .i64)) _ (fun w' h => cp_full h.1) Tryd.underlying40 rfl (by rw [List.length_cons, List.length_map, H.out.2.1.len]; exact infoC69)) hH ?_
    try simp only [Act.put, List.getElem_toArray, List.getElem_cons_zero, List.getElem_cons_succ, List.setIfInBounds_toArray, List.set_cons_zero, List.set_cons_succ]
    refine wpAnyH_take (i := 1) (oi := _) (v := .agg (cpC (.slice a Q.length cap) F)) rfl (by kernel_rfl) (by kernel_rfl) (by kernel_rfl) (fun _ _ _ h => h) (yieldsIf_load_mid (by rfl) 30 _ rfl w.heap.size 0 rfl (.slice a Q.length cap :: F.map (Value.int .i64)) _ (fun w' h => cp_full h.2) Tryd.underlying30 rfl (by rw [HZF.out]; exact infoCL)) hH ?_
    try simp only [Act.put, List.getElem_toArray, List.getElem_cons_zero, List.getElem_cons_succ, List.setIfInBounds_toArray, List.set_cons_zero, List.set_cons_succ]
    have BD := hide (show Below w7.heap.size w7 w7.drew from (Below.refl _ _).drew)
    refine wpAnyH_ready (rs := [2]) (by kernel_rfl) (by simp) ?_
    refine AllReadyH.cons (o := _) rfl (fun K hK => ?_) AllReadyH.nil
    go_simp
    refine (toCpOut_any _ Q us F r enc _ (H.out.1.below (B7.out.2.2.trans (BD.out.mono B7.out.2.2.size))) H.out.2.1 hq HB.out).mono ?_
    rintro e w8 ⟨v8, vs8, rfl, o8, b8⟩
    have B8 := hide (BD.out.trans b8)
    have R8 := hide o8.rd
    clear o8 b8
    have S8 := hide (And.intro (B7.out.2.1.below B8.out B7.out.2.1.lt) (B7.out.1.below B8.out B7.out.1.lt))
    refine hK.out _ _ S8.out (fun hH => ?_)
    clear hK K
    try simp only [Act.put, List.getElem_toArray, List.getElem_cons_zero, List.getElem_cons_succ, List.setIfInBounds_toArray, List.set_cons_zero, List.set_cons_succ]
    refine wpAnyH_ready (rs := [3]) (by kernel_rfl) (by simp) ?_
    refine AllReadyH.cons (o := _) rfl (fun K hK => ?_) AllReadyH.nil
    go_simp
    refine (eqCpOut_same (.slice ax Q.length cx) v8 Q vsx vs8 F r enc _ (X7.out.below B8.out).rd R8.out H.out.2.1).mono ?_
    rintro e w9 ⟨rfl, b9⟩
    have B9 := hide (B8.out.trans (b9.mono B8.out.size))
    refine hK.out _ _ ⟨B7.out.2.1.below B9.out B7.out.2.1.lt, B7.out.1.below B9.out B7.out.1.lt⟩ (fun hH => ?_)
    clear hK K b9 B8 S8 R8
    try simp only [Act.put, List.getElem_toArray, List.getElem_cons_zero, List.getElem_cons_succ, List.setIfInBounds_toArray, List.set_cons_zero, List.set_cons_succ]
    refine wpAnyH_take (i := 4) (oi := _) (v := .bool false) rfl (by kernel_rfl) (by kernel_rfl) (by kernel_rfl) (fun _ _ _ h => h) (Or.inl ⟨by rfl, fun w' hw' => by go_simp⟩) hH ?_
    try simp only [Act.put, List.getElem_toArray, List.getElem_cons_zero, List.getElem_cons_succ, List.setIfInBounds_toArray, List.set_cons_zero, List.set_cons_succ]
    refine wpAnyH_done (by kernel_rfl) (NoPanic.normal ?_) _
    clear hH
    have K9 := hide (show Blk w9 w.heap.size (cpC (.slice a Q.length cap) F) 30 ∧ Blk w9 bx (cpC (.slice ax Q.length cx) F) 40 ∧ Below w.heap.size w w9 from ⟨B7.out.1.below B9.out B7.out.1.lt, B7.out.2.1.below B9.out B7.out.2.1.lt, B7.out.2.2.trans (B9.out.mono B7.out.2.2.size)⟩)
    have W9 := hide (W7.out.below B9.out)
    have X9 := hide (X7.out.below B9.out)
    have G9 := hide (G7.out.below B9.out)
    clear B7 W7 X7 G7 B9 BD
    go_wp2_with (first | (refine wpList_load_row rfl 40 _ rfl bx rfl 40 (cpC (.slice ax Q.length cx) F) (0, 0) _ K9.out.2.1 Tryd.underlying40 rfl (by rw [HZ.out]; exact infoC69) ?_) | fail)
    refine (markCpOut_any (.slice ax Q.length cx) _ Q vsx F _ X9.out HE1.out).mono ?_
    rintro e w10 ⟨rfl, k10⟩
    have hk9 := K9.out.2.2.size
    have K10 := hide (show Blk w10 w.heap.size (cpC (.slice a Q.length cap) F) 30 ∧ Below w.heap.size w w10 from ⟨K9.out.1.keepN k10 (fun hb => by have := (X4.out.2 _ hb).1; omega), k10.low K9.out.2.2 hk9 (fun b hb => by have := (X4.out.2 b hb).1; omega)⟩)
    have W10 := hide (W9.out.keepN k10 (fun b hb hb' => by have h1 := (W4.out.2 b hb).2; have h2 := (X4.out.2 b hb').1; omega))
    have G10 := hide (G9.out.keepN k10 (fun b hb hb' => by have h1 := (G6.out.2 b hb).1; have h2 := (X4.out.2 b hb').2; omega))
    clear k10 K9 W9 X9 G9 X4
    have hneg : decide (((endN 1 1 (Q.map neP) : Nat) : Int) < 0) = false := by simp
    go_wp2_with fail
    refine (eqDiskOpS_same sg sw S vg vw _ G10.out.rd W10.out.rd).mono ?_
    rintro e w11 ⟨rfl, b11⟩
    have K11 := hide (And.intro (K10.out.1.below b11 K10.out.1.lt) (K10.out.2.trans (b11.mono K10.out.2.size)))
    have W11 := hide (W10.out.below b11)
    have G11 := hide (G10.out.below b11)
    clear b11 K10 W10 G10 hneg
    go_wp2_with fail
    refine (markDiskOpS_any sg _ 1 S vg _ G11.out HE2.out).mono ?_
    rintro e w12 ⟨rfl, o12, k12⟩
    have hk11 := K11.out.2.size
    have K12 := hide (show Blk w12 w.heap.size (cpC (.slice a Q.length cap) F) 30 ∧ Below w.heap.size w w12 from ⟨K11.out.1.keepN k12 (fun hb => by have := (G6.out.2 _ hb).1; omega), k12.low K11.out.2 hk11 (fun b hb => by have := (G6.out.2 b hb).1; omega)⟩)
    have W12 := hide (W11.out.keepN k12 (fun b hb hb' => by have h1 := (W4.out.2 b hb).2; have h2 := (G6.out.2 b hb').1; omega))
    have G12 := hide o12
    clear o12 k12 K11 W11 G11
    generalize hEN : endN 2 1 (S.map neD) = EN at *
    have HEN := hide hEN
    have hneg : decide (((EN : Nat) : Int) < 0) = false := by simp
    have hsame : ((EN : Int) != (EN : Int)) = false := by simp
    clear hEN
    go_wp2_with fail
    refine (heldDiskOpS_any sg 1 S vg _ G12.out.rd (by rw [HEN.out]; exact HE2.out)).mono ?_
    rintro e w13 ⟨rfl, hw13⟩
    rw [hw13, HEN.out]
    clear hw13 w13
    go_wp2_with (first | (refine wpList_load_row rfl 30 _ rfl w.heap.size rfl 30 (cpC (.slice a Q.length cap) F) (0, 0) _ K12.out.1 Tryd.underlying30 rfl (by rw [HZ.out]; exact infoCL) ?_) | fail)
    refine (toCpOut_any _ Q us F r enc _ (H.out.1.below K12.out.2) H.out.2.1 hq HB.out).mono ?_
    rintro e w14 ⟨v14, vs14, rfl, o14, b14⟩
    have K14 := hide (K12.out.2.trans (b14.mono K12.out.2.size))
    have W14 := hide (W12.out.below b14)
    have G14 := hide (G12.out.below b14)
    have R14 := hide o14.rd
    clear o14 b14 K12 W12 G12
    go_wp2_with fail
    refine (implCp_any v14 Q vs14 F r enc _ R14.out H.out.2.1 hq HB.out (H.out.2.2.1.below K14.out) (H.out.2.2.2.below K14.out)).mono ?_
    rintro e w15 ⟨sh, vh, rfl, oh, b15⟩
    rw [HSS.out] at oh
    rw [HCD.out]
    have K15 := hide (K14.out.trans (b15.mono K14.out.size))
    have W15 := hide (W14.out.below b15)
    have G15 := hide (G14.out.below b15)
    have R15 := hide oh.rd
    clear oh b15 K14 W14 G14 R14
    go_wp2_with fail
    refine (eqDiskOpS_same sh sw S vh vw _ R15.out W15.out.rd).mono ?_
    rintro e w16 ⟨rfl, b16⟩
    have K16 := hide (K15.out.trans (b16.mono K15.out.size))
    have G16 := hide (G15.out.below b16)
    clear b16 K15 W15 G15 R15
    go_wp2_with fail
    refine (heldDiskOpS_any sg 1 S vg _ G16.out.rd (by rw [HEN.out]; exact HE2.out)).mono ?_
    rintro e w17 ⟨rfl, hw17⟩
    rw [hw17, HEN.out]
    clear hw17 w17
    go_wp2
    go_ret
    exact ⟨rfl, K16.out⟩
end Go.Proofs.YtmmhkjpkidljlaaDoor
