/- A root spoilt by draws. -/
import Derived.Test.YtlgafpjmifacmaaDoorZt04
import Derived.Test.YtlgafpjmifacmaaDoorZt05
import Derived.Deep.RegionHeld3
namespace Go.Proofs.YtlgafpjmifacmaaDoor
set_option linter.unusedVariables false
set_option linter.unusedSimpArgs false
open Go.RowKit

/-- What each operation of the great region of l03Spoil leaves. -/
def VR (b G B : Nat) (i : Nat) (v : Value) (w : World) : Prop := match i with
  | 0 => v = .pointer (some ⟨b, 0, none⟩)
  | 2 => v = .pointer (some ⟨b, 0, none⟩)
  | 12 => v = .pointer (some ⟨b, 0, none⟩)
  | 5 => v = .pointer (some ⟨G, 0, none⟩)
  | 8 => v = .pointer (some ⟨G, 0, none⟩)
  | 16 => v = .pointer (some ⟨G, 0, none⟩)
  | 11 => ∃ (g : Nat) (L : List Int), v = .slice (some ⟨g, 0, none⟩) 4 4 ∧ B ≤ g ∧ L.length = 4 ∧ Blk w g (cellsI L) 3
  | 13 => ∃ z : Int, v = .int .i64 z ∧ 0 ≤ z ∧ z < 4
  | 14 => ∃ (g : Nat) (z : Int) (L : List Int), v = .pointer (some ⟨g, z.toNat, none⟩) ∧ B ≤ g ∧ L.length = 4 ∧ z.toNat < 4 ∧ Blk w g (cellsI L) 3
  | 17 => True
  | _ => ∃ z : Int, v = .int .i64 z
theorem VR.keep {b G B : Nat} {w w' : World} (h : ∀ k, B ≤ k → k < w.heap.size → w'.heap[k]? = w.heap[k]?) : ∀ (j : Nat) (u : Value), VR b G B j u w → VR b G B j u w' := by
  intro j u hv
  unfold VR at hv ⊢
  split at hv
  all_goals first
    | exact hv
    | (obtain ⟨g, L, h1, h2, h3, h4⟩ := hv
       exact ⟨g, L, h1, h2, h3, (h g h2 h4.lt).trans h4⟩)
    | (obtain ⟨g, z, L, h1, h2, h3, h5, h4⟩ := hv
       exact ⟨g, z, L, h1, h2, h3, h5, (h g h2 h4.lt).trans h4⟩)
/-- What holds of the world in that region. -/
structure SR (w0 W : World) (b B : Nat) (cv : Value) (cs : List Int) (w : World) : Prop where
  dn : Dn w0 W w b cv cs
  res : Blk w (W.heap.size + 1) (cellsI (List.replicate 15 0)) 42
  box : ∃ R : List Int, R.length = 15 ∧ Blk w W.heap.size (cellsI R) 42
  hB : W.heap.size + 1 < B
  le : B ≤ w.heap.size
theorem SR.draw {w0 W w w' : World} {b B : Nat} {cv : Value} {cs : List Int} (h : SR w0 W b B cv cs w) (hs : Sc w0 w' b cv cs) (hg : w.grownBy w' (some b)) : SR w0 W b B cv cs w' ∧ ∀ k, B ≤ k → k < w.heap.size → w'.heap[k]? = w.heap[k]? := by
  obtain ⟨R, hR, kR⟩ := h.box
  have := h.hB
  have := h.dn.lt
  exact ⟨⟨h.dn.draw hs hg, h.dn.blk h.res hg (by omega), ⟨R, hR, h.dn.blk kR hg (Nat.le_refl _)⟩, h.hB, Nat.le_trans h.le hg.size⟩, fun k hk hl => hg.block k hl (fun e => by have := Option.some.inj e; omega)⟩
theorem SR.drewS {w0 W w : World} {b B : Nat} {cv : Value} {cs : List Int} (h : SR w0 W b B cv cs w) : SR w0 W b B cv cs w.drew := ⟨h.dn.own ((Below.refl _ _).drew), h.res, h.box, h.hB, h.le⟩
theorem SR.alloc {w0 W w : World} {b B : Nat} {cv : Value} {cs : List Int} (h : SR w0 W b B cv cs w) (o : Obj) : SR w0 W b B cv cs (w.alloc o) ∧ ∀ k, B ≤ k → k < w.heap.size → (w.alloc o).heap[k]? = w.heap[k]? := by
  obtain ⟨R, hR, kR⟩ := h.box
  exact ⟨⟨h.dn.own ((Below.refl _ _).alloc h.dn.gb.size _), h.res.alloc _, ⟨R, hR, kR.alloc _⟩, h.hB, Nat.le_trans h.le (by simp)⟩, fun k hk hl => Below.heap_alloc w o k hl⟩
theorem SR.put {w0 W w : World} {b B : Nat} {cv : Value} {cs : List Int} (h : SR w0 W b B cv cs w) (y : Int) : SR w0 W b B cv cs (w.setCell ⟨W.heap.size, 0, none⟩ (.int .i64 y)) ∧ ∀ k, B ≤ k → k < w.heap.size → (w.setCell ⟨W.heap.size, 0, none⟩ (.int .i64 y)).heap[k]? = w.heap[k]? := by
  obtain ⟨R, hR, kR⟩ := h.box
  have hB := h.hB
  have k2 := h.dn.set (k := 0) (Nat.le_refl _) kR y
  exact ⟨⟨k2.1, h.res.other _ _ (by show W.heap.size + 1 ≠ W.heap.size; omega), ⟨_, by simp [hR], k2.2⟩, hB, by simpa using h.le⟩, fun k hk hl => Below.heap_setCell w ⟨W.heap.size, 0, none⟩ _ k (by show k ≠ W.heap.size; omega)⟩

theorem frame55 (a : Array Value) (v4 v6 : Value) (h : a.size = 55) (h4 : a.getD 4 undef = v4) (h6 : a.getD 6 undef = v6) : ∃ x0 x1 x2 x3 x5 x7 x8 x9 x10 x11 x12 x13 x14 x15 x16 x17 x18 x19 x20 x21 x22 x23 x24 x25 x26 x27 x28 x29 x30 x31 x32 x33 x34 x35 x36 x37 x38 x39 x40 x41 x42 x43 x44 x45 x46 x47 x48 x49 x50 x51 x52 x53 x54 : Value, a = #[x0, x1, x2, x3, v4, x5, v6, x7, x8, x9, x10, x11, x12, x13, x14, x15, x16, x17, x18, x19, x20, x21, x22, x23, x24, x25, x26, x27, x28, x29, x30, x31, x32, x33, x34, x35, x36, x37, x38, x39, x40, x41, x42, x43, x44, x45, x46, x47, x48, x49, x50, x51, x52, x53, x54] := by
  have e : a = ((List.range 55).map fun i => a.getD i undef).toArray := Array.ext (by simp [h]) (fun i h1 h2 => by simp [Array.getD, h1])
  subst h4
  subst h6
  exact ⟨_, _, _, _, _, _, _, _, _, _, _, _, _, _, _, _, _, _, _, _, _, _, _, _, _, _, _, _, _, _, _, _, _, _, _, _, _, _, _, _, _, _, _, _, _, _, _, _, _, _, _, _, _, e⟩

set_option maxRecDepth 100000 in
set_option maxHeartbeats 4000000 in
theorem spoilR_any {w0 W : World} {b : Nat} {cv : Value} {cs : List Int} (h : Sc w0 W b cv cs) (R : List Int) (hR : R.length = 15) :
    Calls Tryd.prog 60 #[.pointer (some ⟨b, 0, none⟩), .agg (cellsI R), .int .i64 1] W fun e w' => ∃ R : List Int, R.length = 15 ∧ e = .returned (.agg (cellsI R)) ∧ Sc w0 w' b cv cs ∧ W.grownBy w' (some b) := by
  have HD := hide (Dn.start h)
  have hlt := h.src.lt
  have HL := hide hR
  clear h hR
  have HZ := hide (show (cellsI R).size = 15 from by rw [cellsI_size]; exact HL.out)
  have HA := hide (HD.out.own (show Below W.heap.size W ((W.alloc (.cells (cellsI R) 42)).alloc (.cells (cellsI (List.replicate 15 0)) 42)) from ((Below.refl _ _).alloc (Nat.le_refl _) _).alloc (by simp) _))
  have KA := hide (show Blk ((W.alloc (.cells (cellsI R) 42)).alloc (.cells (cellsI (List.replicate 15 0)) 42)) W.heap.size (cellsI R) 42 from (Blk.new W _ _).alloc _)
  have KB := hide (show Blk ((W.alloc (.cells (cellsI R) 42)).alloc (.cells (cellsI (List.replicate 15 0)) 42)) (W.heap.size + 1) (cellsI (List.replicate 15 0)) 42 from by
    have := Blk.new (W.alloc (.cells (cellsI R) 42)) (cellsI (List.replicate 15 0)) 42
    simp at this
    exact this)
  go_enter Tryd.func60, Tryd.ntmps60
  go_wp2_with fail
  refine (HA.out.sc.One 1 (by omega) (by omega)).mono ?_
  rintro e w1 ⟨t, rfl, s1, d1⟩
  have HK := hide (show Dn w0 W w1 b cv cs ∧ Blk w1 (W.heap.size + 1) (cellsI (List.replicate 15 0)) 42 ∧ Blk w1 W.heap.size (cellsI R) 42 from
    ⟨HA.out.draw s1 d1, KB.out.drawn d1 (by omega), KA.out.drawn d1 (by omega)⟩)
  clear s1 d1 HD HA KA KB HZ
  cases t with
  | false =>
    have HZ := hide (show (cellsI R).size = 15 from by rw [cellsI_size]; exact HL.out)
    have HB := hide (HK.out.1.own (below_setRow (Below.refl W.heap.size _) (show W.heap.size ≤ W.heap.size + 1 by omega) (cellsI R)))
    go_wp2_with (first | (refine wpList_load_row rfl 42 _ rfl W.heap.size rfl 42 (cellsI R) (0, 0) _ HK.out.2.2 Tryd.underlying42 rfl (by rw [HZ.out]; exact info15) ?_) | (refine wpList_store_row rfl 42 _ _ rfl (W.heap.size + 1) (cellsI R) rfl rfl 42 _ HK.out.2.1 (by rw [HZ.out]; exact info15) (by rw [HZ.out]; rfl) (cellsI_one _) ?_) | fail)
    refine bodyPost_ret (v := .agg (cellsI R)) ?_ rfl ⟨_, HL.out, rfl, HB.out.sc, HB.out.gb⟩
    exact results_cell_row rfl _ _ (W.heap.size + 1) 42 (cellsI R) (0, 0) _ rfl (HK.out.2.1.row _) Tryd.underlying42 rfl (by rw [HZ.out]; exact info15)
  | true =>
    go_wp2_with fail
    refine (wild_any HK.out.1.sc).mono ?_
    rintro e w2 ⟨x, rfl, s2, d2⟩
    have HM := hide (And.intro (HK.out.1.draw s2 d2) (And.intro (HK.out.1.blk HK.out.2.1 d2 (by omega)) (HK.out.1.blk HK.out.2.2 d2 (Nat.le_refl _))))
    clear s2 d2 HK
    have HA := hide (HM.out.1.own (show Below W.heap.size w2 (w2.alloc (.cells (cellsI [0, 1, 2, 70, 2047, 2048, x]) 3)) from (Below.refl _ _).alloc HM.out.1.gb.size _))
    have KA := hide (Blk.new w2 (cellsI [0, 1, 2, 70, 2047, 2048, x]) 3)
    go_wp2_with fail
    refine (HA.out.sc.N 7 (by omega) (by omega)).mono ?_
    rintro e w3 ⟨z, rfl, hz0, hz1, s2, d2⟩
    obtain ⟨p, cp⟩ := cell_of (HA.out.blk KA.out d2 HM.out.1.gb.size) z hz0 (by simpa using hz1)
    have HK := hide (And.intro (HA.out.draw s2 d2) (And.intro (HA.out.blk (HM.out.2.1.alloc _) d2 (by omega)) (HA.out.blk (HM.out.2.2.alloc _) d2 (Nat.le_refl _))))
    have HS := hide (show W.heap.size + 1 < w3.heap.size from HK.out.2.1.lt)
    clear s2 d2 HM HA KA
    go_wp2_with fail
    refine (HK.out.1.sc.N 5 (by omega) (by omega)).mono ?_
    rintro e w4 ⟨n, rfl, hn0, hn1, s2, d2⟩
    have HM := hide (And.intro (HK.out.1.draw s2 d2) (And.intro (HK.out.1.blk HK.out.2.1 d2 (by omega)) (HK.out.1.blk HK.out.2.2 d2 (Nat.le_refl _))))
    clear s2 d2 HK cp
    have HK := hide HM.out
    clear HM
    have hn : n = 0 ∨ n = 1 ∨ n = 2 ∨ ((n == 0) = false ∧ (n == 1) = false ∧ (n == 2) = false) := by
      rcases (by omega : n = 0 ∨ n = 1 ∨ n = 2 ∨ 3 ≤ n) with h | h | h | h
      · exact .inl h
      · exact .inr (.inl h)
      · exact .inr (.inr (.inl h))
      · exact .inr (.inr (.inr ⟨by simp; omega, by simp; omega, by simp; omega⟩))
    clear hn0 hn1
    rcases hn with rfl | rfl | rfl | ⟨n0, n1, n2⟩
    · go_wp2
      refine wp_region_noPanic ?_
      refine wp_region_any (by kernel_rfl) ?_
      have HSR := hide (show SR w0 W b w4.heap.size cv cs w4 from ⟨HK.out.1, HK.out.2.1, ⟨R, HL.out, HK.out.2.2⟩, HK.out.2.1.lt, Nat.le_refl _⟩)
      clear HK
      refine wpAny_invB [(0, .pointer (some ⟨b, 0, none⟩)), (4, .pointer (some ⟨W.heap.size, 0, none⟩)), (6, .pointer (some ⟨W.heap.size + 1, 0, none⟩))] (SR w0 W b w4.heap.size cv cs) (VR b W.heap.size w4.heap.size) 55 [] (by kernel_rfl) ?hstep ?hfin _ _ (by rfl) (by rfl) HSR.out.drewS (by intro t v h; simp at h; rcases h with ⟨rfl, rfl⟩ | ⟨rfl, rfl⟩ | ⟨rfl, rfl⟩ <;> rfl)
      case hstep =>
        intro i o listed ac wz hi hall hI
        have f0 : ac.tmps.getD 0 undef = .pointer (some ⟨b, 0, none⟩) := hI.fix 0 _ (by simp)
        have f4 : ac.tmps.getD 4 undef = .pointer (some ⟨W.heap.size, 0, none⟩) := hI.fix 4 _ (by simp)
        match i, hi with
        | 0, hi =>
          obtain rfl := Option.some.inj hi
          refine ⟨by rfl, ?_⟩
          go_simp
          exact ⟨_, rfl, rfl, hI.held⟩
        | 1, hi =>
          obtain rfl := Option.some.inj hi
          have v0 : ac.tmps.getD 29 undef = .pointer (some ⟨b, 0, none⟩) := hI.at hall 0 29 rfl rfl (by rfl)
          refine ⟨by rfl, ?_⟩
          go_simp
          refine (wild_any hI.held.dn.sc).mono ?_
          rintro e w' ⟨x, rfl, s2, d2⟩
          exact ⟨_, rfl, ⟨_, rfl⟩, (hI.held.draw s2 d2).1, VR.keep (hI.held.draw s2 d2).2⟩
        | 2, hi =>
          obtain rfl := Option.some.inj hi
          refine ⟨by rfl, ?_⟩
          go_simp
          exact ⟨_, rfl, rfl, hI.held⟩
        | 3, hi =>
          obtain rfl := Option.some.inj hi
          have v0 : ac.tmps.getD 31 undef = .pointer (some ⟨b, 0, none⟩) := hI.at hall 2 31 rfl rfl (by rfl)
          refine ⟨by rfl, ?_⟩
          go_simp
          refine (hI.held.dn.sc.N 2 (by omega) (by omega)).mono ?_
          rintro e w' ⟨x, rfl, _, _, s2, d2⟩
          exact ⟨_, rfl, ⟨_, rfl⟩, (hI.held.draw s2 d2).1, VR.keep (hI.held.draw s2 d2).2⟩
        | 4, hi =>
          obtain rfl := Option.some.inj hi
          obtain ⟨x, v0⟩ : ∃ z : Int, ac.tmps.getD 32 undef = .int .i64 z := hI.at hall 3 32 rfl rfl (by rfl)
          refine ⟨by rfl, ?_⟩
          go_simp
          exact ⟨_, rfl, ⟨_, rfl⟩, hI.held⟩
        | 5, hi =>
          obtain rfl := Option.some.inj hi
          refine ⟨by rfl, ?_⟩
          go_simp
          exact ⟨_, rfl, rfl, hI.held⟩
        | 6, hi =>
          obtain rfl := Option.some.inj hi
          have v0 : ac.tmps.getD 34 undef = .pointer (some ⟨W.heap.size, 0, none⟩) := hI.at hall 5 34 rfl rfl (by rfl)
          obtain ⟨R2, hR2, kR2⟩ := hI.held.box
          obtain ⟨x, cx⟩ := cell_in kR2 0 (by omega)
          clear kR2 hR2
          refine ⟨by rfl, ?_⟩
          go_simp
          exact ⟨_, rfl, ⟨_, rfl⟩, hI.held⟩
        | 7, hi =>
          obtain rfl := Option.some.inj hi
          obtain ⟨x, v0⟩ : ∃ z : Int, ac.tmps.getD 35 undef = .int .i64 z := hI.at hall 6 35 rfl rfl (by rfl)
          refine ⟨by rfl, ?_⟩
          go_simp
          exact ⟨_, rfl, ⟨_, rfl⟩, hI.held⟩
        | 8, hi =>
          obtain rfl := Option.some.inj hi
          refine ⟨by rfl, ?_⟩
          go_simp
          exact ⟨_, rfl, rfl, hI.held⟩
        | 9, hi =>
          obtain rfl := Option.some.inj hi
          have v0 : ac.tmps.getD 37 undef = .pointer (some ⟨W.heap.size, 0, none⟩) := hI.at hall 8 37 rfl rfl (by rfl)
          obtain ⟨R2, hR2, kR2⟩ := hI.held.box
          obtain ⟨x, cx⟩ := cell_in kR2 0 (by omega)
          clear kR2 hR2
          refine ⟨by rfl, ?_⟩
          go_simp
          exact ⟨_, rfl, ⟨_, rfl⟩, hI.held⟩
        | 10, hi =>
          obtain rfl := Option.some.inj hi
          obtain ⟨x, v0⟩ : ∃ z : Int, ac.tmps.getD 38 undef = .int .i64 z := hI.at hall 9 38 rfl rfl (by rfl)
          refine ⟨by rfl, ?_⟩
          go_simp
          exact ⟨_, rfl, ⟨_, rfl⟩, hI.held⟩
        | 11, hi =>
          obtain rfl := Option.some.inj hi
          obtain ⟨x0, v0⟩ : ∃ z : Int, ac.tmps.getD 30 undef = .int .i64 z := hI.at hall 1 30 rfl rfl (by rfl)
          obtain ⟨x1, v1⟩ : ∃ z : Int, ac.tmps.getD 33 undef = .int .i64 z := hI.at hall 4 33 rfl rfl (by rfl)
          obtain ⟨x2, v2⟩ : ∃ z : Int, ac.tmps.getD 36 undef = .int .i64 z := hI.at hall 7 36 rfl rfl (by rfl)
          obtain ⟨x3, v3⟩ : ∃ z : Int, ac.tmps.getD 39 undef = .int .i64 z := hI.at hall 10 39 rfl rfl (by rfl)
          have n0 := v0
          rw [Array.getD_eq_getD_getElem?] at n0
          have n1 := v1
          rw [Array.getD_eq_getD_getElem?] at n1
          have n2 := v2
          rw [Array.getD_eq_getD_getElem?] at n2
          have n3 := v3
          rw [Array.getD_eq_getD_getElem?] at n3
          refine ⟨by rfl, ?_⟩
          go_simp
          have HV := hide (show VR b W.heap.size w4.heap.size 11 (.slice (some ⟨wz.heap.size, 0, none⟩) 4 4) (wz.alloc (.cells #[.int .i64 x0, .int .i64 x1, .int .i64 x2, .int .i64 x3] 3)) from ⟨wz.heap.size, [x0, x1, x2, x3], rfl, hI.held.le, rfl, Blk.new wz _ _⟩)
          exact ⟨_, rfl, HV.out, (hI.held.alloc _).1, VR.keep (hI.held.alloc _).2⟩
        | 12, hi =>
          obtain rfl := Option.some.inj hi
          refine ⟨by rfl, ?_⟩
          go_simp
          exact ⟨_, rfl, rfl, hI.held⟩
        | 13, hi =>
          obtain rfl := Option.some.inj hi
          have v0 : ac.tmps.getD 41 undef = .pointer (some ⟨b, 0, none⟩) := hI.at hall 12 41 rfl rfl (by rfl)
          refine ⟨by rfl, ?_⟩
          go_simp
          refine (hI.held.dn.sc.N 4 (by omega) (by omega)).mono ?_
          rintro e w' ⟨x, rfl, h0, h1, s2, d2⟩
          exact ⟨_, rfl, ⟨_, rfl, h0, h1⟩, (hI.held.draw s2 d2).1, VR.keep (hI.held.draw s2 d2).2⟩
        | 14, hi =>
          obtain rfl := Option.some.inj hi
          obtain ⟨g, L, v0, hg, hLL, kL⟩ : VR b W.heap.size w4.heap.size 11 (ac.tmps.getD 40 undef) wz := hI.at hall 11 40 rfl rfl (by rfl)
          obtain ⟨x, v1, hx0, hx1⟩ : VR b W.heap.size w4.heap.size 13 (ac.tmps.getD 42 undef) wz := hI.at hall 13 42 rfl rfl (by rfl)
          have HV := hide (show VR b W.heap.size w4.heap.size 14 (.pointer (some ⟨g, x.toNat, none⟩)) wz from ⟨g, x, L, rfl, hg, hLL, by omega, kL⟩)
          clear kL
          refine ⟨by rfl, ?_⟩
          go_simp
          exact ⟨_, rfl, HV.out, hI.held⟩
        | 15, hi =>
          obtain rfl := Option.some.inj hi
          obtain ⟨g, x, L, v0, hg, hLL, hx, kL⟩ : VR b W.heap.size w4.heap.size 14 (ac.tmps.getD 43 undef) wz := hI.at hall 14 43 rfl rfl (by rfl)
          obtain ⟨y, cy⟩ := cell_in kL x.toNat (by omega)
          clear kL
          refine ⟨by rfl, ?_⟩
          go_simp
          exact ⟨_, rfl, ⟨_, rfl⟩, hI.held⟩
        | 16, hi =>
          obtain rfl := Option.some.inj hi
          refine ⟨by rfl, ?_⟩
          go_simp
          exact ⟨_, rfl, rfl, hI.held⟩
        | 17, hi =>
          obtain rfl := Option.some.inj hi
          have v0 : ac.tmps.getD 45 undef = .pointer (some ⟨W.heap.size, 0, none⟩) := hI.at hall 16 45 rfl rfl (by rfl)
          obtain ⟨y, v1⟩ : ∃ z : Int, ac.tmps.getD 44 undef = .int .i64 z := hI.at hall 15 44 rfl rfl (by rfl)
          obtain ⟨R2, hR2, kR2⟩ := hI.held.box
          obtain ⟨x, cx⟩ := cell_in kR2 0 (by omega)
          have fx := kR2.frozen 0
          clear kR2 hR2
          refine ⟨by rfl, ?_⟩
          go_simp
          exact ⟨⟨undef, trivial⟩, (hI.held.put y).1, VR.keep (hI.held.put y).2⟩
      case hfin =>
        intro listed ac wz hall hI
        refine NoPanic.normal ?_
        have f4 : ac.tmps.getD 4 undef = .pointer (some ⟨W.heap.size, 0, none⟩) := hI.fix 4 _ (by simp)
        have f6 : ac.tmps.getD 6 undef = .pointer (some ⟨W.heap.size + 1, 0, none⟩) := hI.fix 6 _ (by simp)
        obtain ⟨R, hR, kR⟩ := hI.held.box
        have HK := hide (And.intro hI.held.dn (And.intro hI.held.res kR))
        have HL := hide hR
        have hdf := hI.df
        have hsz := hI.sz
        clear hR kR hI
        obtain ⟨tm, df⟩ := ac
        simp only at f4 f6 hdf hsz
        subst hdf
        obtain ⟨x0, x1, x2, x3, x5, x7, x8, x9, x10, x11, x12, x13, x14, x15, x16, x17, x18, x19, x20, x21, x22, x23, x24, x25, x26, x27, x28, x29, x30, x31, x32, x33, x34, x35, x36, x37, x38, x39, x40, x41, x42, x43, x44, x45, x46, x47, x48, x49, x50, x51, x52, x53, x54, rfl⟩ := frame55 tm _ _ hsz f4 f6
        clear hsz f4 f6
        have HZ := hide (show (cellsI R).size = 15 from by rw [cellsI_size]; exact HL.out)
        have HB := hide (HK.out.1.own (below_setRow (Below.refl W.heap.size _) (show W.heap.size ≤ W.heap.size + 1 by omega) (cellsI R)))
        go_wp2_with (first | (refine wpList_load_row rfl 42 _ rfl W.heap.size rfl 42 (cellsI R) (0, 0) _ HK.out.2.2 Tryd.underlying42 rfl (by rw [HZ.out]; exact info15) ?_) | (refine wpList_store_row rfl 42 _ _ rfl (W.heap.size + 1) (cellsI R) rfl rfl 42 _ HK.out.2.1 (by rw [HZ.out]; exact info15) (by rw [HZ.out]; rfl) (cellsI_one _) ?_) | fail)
        refine bodyPost_ret (v := .agg (cellsI R)) ?_ rfl ⟨_, HL.out, rfl, HB.out.sc, HB.out.gb⟩
        exact results_cell_row rfl _ _ (W.heap.size + 1) 42 (cellsI R) (0, 0) _ rfl (HK.out.2.1.row _) Tryd.underlying42 rfl (by rw [HZ.out]; exact info15)
    · obtain ⟨old, c4⟩ := cell_in HK.out.2.2 13 (by rw [HL.out]; omega)
      have f4 := HK.out.2.2.frozen 13
      have HJ := hide (And.intro (HK.out.1.set (k := 13) (Nat.le_refl _) HK.out.2.2 p) (HK.out.2.1.other ⟨W.heap.size, 13, none⟩ (.int .i64 p) (by show W.heap.size + 1 ≠ W.heap.size; omega)))
      clear HK
      have HL := hide (show (R.set 13 p).length = 15 by simp [HL.out])
      generalize R.set 13 p = R at HJ HL
      have HK := hide (And.intro HJ.out.1.1 (And.intro HJ.out.2 HJ.out.1.2))
      clear HJ
      have HZ := hide (show (cellsI R).size = 15 from by rw [cellsI_size]; exact HL.out)
      have HB := hide (HK.out.1.own (below_setRow (Below.refl W.heap.size _) (show W.heap.size ≤ W.heap.size + 1 by omega) (cellsI R)))
      go_wp2_with (first | (refine wpList_load_row rfl 42 _ rfl W.heap.size rfl 42 (cellsI R) (0, 0) _ HK.out.2.2 Tryd.underlying42 rfl (by rw [HZ.out]; exact info15) ?_) | (refine wpList_store_row rfl 42 _ _ rfl (W.heap.size + 1) (cellsI R) rfl rfl 42 _ HK.out.2.1 (by rw [HZ.out]; exact info15) (by rw [HZ.out]; rfl) (cellsI_one _) ?_) | fail)
      refine bodyPost_ret (v := .agg (cellsI R)) ?_ rfl ⟨_, HL.out, rfl, HB.out.sc, HB.out.gb⟩
      exact results_cell_row rfl _ _ (W.heap.size + 1) 42 (cellsI R) (0, 0) _ rfl (HK.out.2.1.row _) Tryd.underlying42 rfl (by rw [HZ.out]; exact info15)
    · obtain ⟨old, c4⟩ := cell_in HK.out.2.2 14 (by rw [HL.out]; omega)
      have f4 := HK.out.2.2.frozen 14
      have HJ := hide (And.intro (HK.out.1.set (k := 14) (Nat.le_refl _) HK.out.2.2 p) (HK.out.2.1.other ⟨W.heap.size, 14, none⟩ (.int .i64 p) (by show W.heap.size + 1 ≠ W.heap.size; omega)))
      clear HK
      have HL := hide (show (R.set 14 p).length = 15 by simp [HL.out])
      generalize R.set 14 p = R at HJ HL
      have HK := hide (And.intro HJ.out.1.1 (And.intro HJ.out.2 HJ.out.1.2))
      clear HJ
      have HZ := hide (show (cellsI R).size = 15 from by rw [cellsI_size]; exact HL.out)
      have HB := hide (HK.out.1.own (below_setRow (Below.refl W.heap.size _) (show W.heap.size ≤ W.heap.size + 1 by omega) (cellsI R)))
      go_wp2_with (first | (refine wpList_load_row rfl 42 _ rfl W.heap.size rfl 42 (cellsI R) (0, 0) _ HK.out.2.2 Tryd.underlying42 rfl (by rw [HZ.out]; exact info15) ?_) | (refine wpList_store_row rfl 42 _ _ rfl (W.heap.size + 1) (cellsI R) rfl rfl 42 _ HK.out.2.1 (by rw [HZ.out]; exact info15) (by rw [HZ.out]; rfl) (cellsI_one _) ?_) | fail)
      refine bodyPost_ret (v := .agg (cellsI R)) ?_ rfl ⟨_, HL.out, rfl, HB.out.sc, HB.out.gb⟩
      exact results_cell_row rfl _ _ (W.heap.size + 1) 42 (cellsI R) (0, 0) _ rfl (HK.out.2.1.row _) Tryd.underlying42 rfl (by rw [HZ.out]; exact info15)
    · go_wp2_with fail
      refine (HK.out.1.sc.N 12 (by omega) (by omega)).mono ?_
      rintro e w5 ⟨q, rfl, hq0, hq1, s2, d2⟩
      have HM := hide (And.intro (HK.out.1.draw s2 d2) (And.intro (HK.out.1.blk HK.out.2.1 d2 (by omega)) (HK.out.1.blk HK.out.2.2 d2 (Nat.le_refl _))))
      clear s2 d2 HK
      obtain ⟨qn, rfl⟩ : ∃ qn : Nat, q = (qn : Int) := ⟨q.toNat, by omega⟩
      have hqn : qn < 12 := by omega
      obtain ⟨old, c4⟩ := cell_in HM.out.2.2 (1 + qn) (by rw [HL.out]; omega)
      have f4 := HM.out.2.2.frozen (1 + qn)
      have HJ := hide (And.intro (HM.out.1.set (k := 1 + qn) (Nat.le_refl _) HM.out.2.2 p) (HM.out.2.1.other ⟨W.heap.size, 1 + qn, none⟩ (.int .i64 p) (by show W.heap.size + 1 ≠ W.heap.size; omega)))
      clear HM
      have HL := hide (show (R.set (1 + qn) p).length = 15 by simp [HL.out])
      generalize R.set (1 + qn) p = R at HJ HL
      have HK := hide (And.intro HJ.out.1.1 (And.intro HJ.out.2 HJ.out.1.2))
      clear HJ
      have HZ := hide (show (cellsI R).size = 15 from by rw [cellsI_size]; exact HL.out)
      have HB := hide (HK.out.1.own (below_setRow (Below.refl W.heap.size _) (show W.heap.size ≤ W.heap.size + 1 by omega) (cellsI R)))
      go_wp2_with (first | (refine wpList_load_row rfl 42 _ rfl W.heap.size rfl 42 (cellsI R) (0, 0) _ HK.out.2.2 Tryd.underlying42 rfl (by rw [HZ.out]; exact info15) ?_) | (refine wpList_store_row rfl 42 _ _ rfl (W.heap.size + 1) (cellsI R) rfl rfl 42 _ HK.out.2.1 (by rw [HZ.out]; exact info15) (by rw [HZ.out]; rfl) (cellsI_one _) ?_) | fail)
      refine bodyPost_ret (v := .agg (cellsI R)) ?_ rfl ⟨_, HL.out, rfl, HB.out.sc, HB.out.gb⟩
      exact results_cell_row rfl _ _ (W.heap.size + 1) 42 (cellsI R) (0, 0) _ rfl (HK.out.2.1.row _) Tryd.underlying42 rfl (by rw [HZ.out]; exact info15)
end Go.Proofs.YtlgafpjmifacmaaDoor
