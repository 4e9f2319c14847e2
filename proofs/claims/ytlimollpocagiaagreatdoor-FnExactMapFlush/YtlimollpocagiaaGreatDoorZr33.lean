/- The program's numbers.root, wherever the numbers lie. The model's l04Root. -/
import Derived.Test.YtlimollpocagiaaGreatDoorZr22
import Derived.Test.YtlimollpocagiaaGreatDoorZr32
namespace Go.Proofs.YtlimollpocagiaaGreatDoor
set_option linter.unusedVariables false
set_option linter.unusedSimpArgs false
open Go.RowKit Go.Shelf
attribute [local go_sem] Oper.semAt_some

def numAt (Ls : Nat → List Int) (j : Nat) : Int := (Ls (topL j)).getD (topR j) 0
/-- The cells of a root whose first k pointers are set. -/
def rootC (Ls : Nat → List Int) (n k : Nat) : Array Value := cellsI ((n : Int) :: (List.range 14).map (fun j => if j < k then numAt Ls j else 0))
theorem rootC_size (Ls : Nat → List Int) (n k : Nat) : (rootC Ls n k).size = 15 := by simp [rootC, cellsI_size]
theorem rootC_set (Ls : Nat → List Int) (n k : Nat) (h : k < 14) : (rootC Ls n k).setIfInBounds (1 + k) (.int .i64 (numAt Ls k)) = rootC Ls n (k + 1) := by
  apply Array.ext_getElem?
  intro i
  rw [Array.getElem?_setIfInBounds, rootC_size]
  cases i with
  | zero =>
    rw [if_neg (by omega)]
    simp [rootC, cellsI]
  | succ j =>
    by_cases e : 1 + k = j + 1
    · rw [if_pos e, if_pos (by omega)]
      obtain rfl : k = j := by omega
      simp [rootC, cellsI, h]
    · rw [if_neg e]
      by_cases hj : j < 14
      · simp only [rootC, cellsI, List.getElem?_toArray, List.map_cons, List.getElem?_cons_succ, List.getElem?_map, List.getElem?_range hj, Option.map_some]
        by_cases hjk : j < k
        · rw [if_pos hjk, if_pos (by omega)]
        · rw [if_neg hjk, if_neg (by omega)]
      · simp [rootC, cellsI, hj]
theorem infoRtY : (Tryz.prog.info? 28).map (·.size) = some 15 := by kernel_rfl
/-- Between two spots of root. -/
structure RtI (b off : Nat) (Ls : Nat → List Int) (n : Nat) (w : World) (pre : List Nat) (W : World) : Prop where
  le : pre.length ≤ 14
  bp : Blk W w.heap.size #[.pointer (some ⟨b, off, none⟩)] 177
  br : Blk W (w.heap.size + 1) (cellsI (List.replicate 15 0)) 28
  bx : Blk W (w.heap.size + 1 + 1) (rootC Ls n pre.length) 28
  low : Below w.heap.size w W
  size : w.heap.size + 6 ≤ W.heap.size
theorem RtI.abides {b off n z : Nat} {Ls : Nat → List Int} {w : World} (hz : w.heap.size ≤ z) : AbidesZ z (RtI b off Ls n w) := by
  intro pre A B row h hg hr
  exact ⟨h.le, blk_abide h.bp hg hr, blk_abide h.br hg hr, blk_abide h.bx hg hr, below_abide h.low hz h.low.size hg hr, Nat.le_trans h.size hg.size⟩
theorem blk_twoY {w : World} {b : Nat} {t : TypeId} {x y : Value} (h : Blk w b #[x, y] t) : w.rangeAt b 0 [x, y] := by
  intro j v hj
  match j, hj with
  | 0, hj => rw [h.cell (0 + 0)]; simpa using hj
  | 1, hj => rw [h.cell (0 + 1)]; simpa using hj
  | k + 2, hj => simp at hj
theorem Kq.setC {n₀ z : Nat} {Ty : TypeId → Prop} {W : World} {g j : Nat} {c : Array Value} {t : TypeId} {v : Value} (h : Blk W g c t) (ht : Ty t) (hn : n₀ ≤ g) : Kq n₀ z Ty W (W.setCell ⟨g, j, none⟩ v) := by
  refine Kq.grown (row := some g) ⟨rfl, rfl, rfl, by simp [World.setCell], fun k hk hne => Below.heap_setCell W ⟨g, j, none⟩ v k (fun e => hne (by rw [e]))⟩ (by have := h.lt; omega) (fun r e => by cases e; exact ⟨hn, c, t, h, ht⟩)
set_option maxRecDepth 100000 in
set_option maxHeartbeats 4000000 in
theorem rootG_any (b off n base : Nat) (t : TypeId) (C : Array Value) (sl : Nat → Value) (Ls : Nat → List Int) (w : World) (h : NumS w base b off C t sl Ls) :
    Calls Tryz.prog 73 #[.pointer (some ⟨b, off, none⟩), .int .i64 (n : Int)] w fun e w' => e = .returned (.agg (rootC Ls n 14)) ∧ Below w.heap.size w w' := by
  have HN := hide h
  obtain ⟨ZR, hZR⟩ : ∃ ZR, ZR = cellsI (List.replicate 15 0) := ⟨_, rfl⟩
  obtain ⟨R0, hR0⟩ : ∃ R0, R0 = rootC Ls n 0 := ⟨_, rfl⟩
  obtain ⟨Wa, hWa⟩ : ∃ Wa, Wa = ((w.alloc (.cells #[.pointer (some ⟨b, off, none⟩)] 177)).alloc (.cells ZR 28)).alloc (.cells R0 28) := ⟨_, rfl⟩
  have hZe : ZR = #[.int .i64 0, .int .i64 0, .int .i64 0, .int .i64 0, .int .i64 0, .int .i64 0, .int .i64 0, .int .i64 0, .int .i64 0, .int .i64 0, .int .i64 0, .int .i64 0, .int .i64 0, .int .i64 0, .int .i64 0] := by rw [hZR]; rfl
  have hRe : R0 = #[.int .i64 (n : Int), .int .i64 0, .int .i64 0, .int .i64 0, .int .i64 0, .int .i64 0, .int .i64 0, .int .i64 0, .int .i64 0, .int .i64 0, .int .i64 0, .int .i64 0, .int .i64 0, .int .i64 0, .int .i64 0] := by rw [hR0]; rfl
  have sa : Wa.heap.size = w.heap.size + 3 := by rw [hWa]; simp
  have BA := hide (show Below w.heap.size w Wa from by rw [hWa]; exact ((((Below.refl _ _).alloc (Nat.le_refl _) _).alloc (by simp) _).alloc (by simp; omega) _))
  have K0 := hide (show Blk Wa w.heap.size #[.pointer (some ⟨b, off, none⟩)] 177 from by rw [hWa]; exact ((Blk.new w _ _).alloc _).alloc _)
  have K1 := hide (show Blk Wa (w.heap.size + 1) ZR 28 from by have h := Blk.new (w.alloc (.cells #[.pointer (some ⟨b, off, none⟩)] 177)) ZR 28; rw [World.size_alloc] at h; rw [hWa]; exact h.alloc _)
  have K2 := hide (show Blk Wa (w.heap.size + 1 + 1) R0 28 from by have h := Blk.new ((w.alloc (.cells #[.pointer (some ⟨b, off, none⟩)] 177)).alloc (.cells ZR 28)) R0 28; rw [World.size_alloc, World.size_alloc] at h; rw [hWa]; exact h)
  obtain ⟨WL, hWL⟩ : ∃ WL, WL = Wa.alloc (.cells #[.pointer (some ⟨w.heap.size + 1 + 1, 0, none⟩)] 183) := ⟨_, rfl⟩
  have hsL : WL.heap.size = w.heap.size + 4 := by rw [hWL]; simp [sa]
  have BL := hide (show Below Wa.heap.size Wa WL from by rw [hWL]; exact (Below.refl _ _).alloc (Nat.le_refl _) _)
  have HBx := hide (show Blk WL Wa.heap.size #[.pointer (some ⟨w.heap.size + 1 + 1, 0, none⟩)] 183 from by rw [hWL]; exact Blk.new Wa _ _)
  have I0 := hide (show ∀ W', Below WL.heap.size WL W' → WL.heap.size + 2 ≤ W'.heap.size → RtI b off Ls n w [] W' from fun W' hb hs' => by
    have hb0 : Below Wa.heap.size Wa W' := BL.out.trans (hb.mono (by omega))
    exact ⟨by simp, K0.out.below hb0 K0.out.lt, by rw [← hZR]; exact K1.out.below hb0 K1.out.lt, by rw [List.length_nil, ← hR0]; exact K2.out.below hb0 K2.out.lt, BA.out.trans (hb0.mono (by omega)), by omega⟩)
  rw [hZe, hRe] at hWa
  have HWa := hide hWa
  have HWL := hide hWL
  have hsa1 : Wa.heap.size ≤ w.heap.size + 3 := by omega
  have hsa2 : w.heap.size + 3 ≤ Wa.heap.size := by omega
  have hsL1 : WL.heap.size ≤ w.heap.size + 4 := by omega
  have hsL2 : w.heap.size + 4 ≤ WL.heap.size := by omega
  clear h hWa hWL sa hsL hZR hR0 hZe hRe
  refine (callsIn_wide (n := 6)).1 ?_
  refine callsIn_of_wp_marks Tryz.func73 rfl trivial ?_ rfl
  simp only [Tryz.ntmps73, List.size_toArray, List.length_cons, List.length_nil, Nat.reduceAdd, Nat.reduceSub, Array.replicate_succ, Array.replicate_zero, List.push_toArray, List.append_toArray, List.nil_append, List.cons_append]
  gi_upto_region 2 with fail
  rw [← HWa.out]
  refine wpIn_wide.2 ?_
  go_wp2_with (first
    | (go_at_call 103; refine (callsIn_wide.1 (tops0_in 0 _ _)).mono ?_; rintro e w' ⟨rfl, rfl⟩))
  gi_wp2
  rw [← HWL.out]
  have hmx : Tryz.prog.follows .mixedOrders = true := by kernel_rfl
  refine wpIn_rangeGoesK (α := Nat) rfl (by decide) (gf := 118) (lb := #[.pointer (some ⟨Wa.heap.size, 0, none⟩)]) rfl trivial (enters_of Tryz.func118 (by kernel_rfl) rfl) (encs := topE0 (w.heap.size + 1 + 1)) (Kp := (Kq w.heap.size (WL.heap.size + 2) (fun t => t = 28))) Kq.trans (fun A o o' ho hc => Kq.put o' (by omega) (by omega) ho hc)
    (Ok := fun pre x _ => x = pre.length ∧ x < 14) (S := fun xs => xs = List.range 14) (Sp := fun _ => True)
    (fun W1 hb1 hs1 => by
      have := tops0_goes 5 Wa.heap.size (w.heap.size + 1 + 1) w.heap.size (WL.heap.size + 2) (fun t => t = 28) (by decide) W1 (HBx.out.below hb1 HBx.out.lt)
      exact this)
    (fun _ => rfl) (RtI b off Ls n w) (fun c pre W => False) (RtI.abides (by omega)) (by rintro c pre A B row h hg hr; exact h)
    (fun W' hb hs' => I0.out W' hb (by omega))
    (fun pre x a' Wx => ∃ c, a' = { tmps := #[.pointer (some ⟨b, off, none⟩), .int .i64 (n : Int), .pointer (some ⟨w.heap.size, 0, none⟩), undef, .pointer (some ⟨w.heap.size + 1, 0, none⟩), .pointer (some ⟨w.heap.size + 1 + 1, 0, none⟩), .pointer (some ⟨c, 0, none⟩), .pointer (some ⟨w.heap.size + 1 + 1, 1 + x, none⟩), .int .i64 (n : Int), .agg #[.int .i64 (n : Int), .int .i64 0, .int .i64 0, .int .i64 0, .int .i64 0, .int .i64 0, .int .i64 0, .int .i64 0, .int .i64 0, .int .i64 0, .int .i64 0, .int .i64 0, .int .i64 0, .int .i64 0, .int .i64 0], .func (.func 118) #[] #[.pointer (some ⟨Wa.heap.size, 0, none⟩)], spotV (topL x) (topR x), .pointer (some ⟨w.heap.size + 1 + 1, 1 + x, none⟩), undef, undef, undef, undef, undef, undef], defers := [] } ∧ Blk Wx c #[.int .i64 (topL x : Int), .int .i64 (topR x : Int)] 123 ∧ RtI b off Ls n w pre Wx ∧ x = pre.length ∧ x < 14) ?ax ?assign ?body ?done ?stop
  case ax =>
    rintro pre x a' A B ⟨c, h1, h2, h3, h4⟩ hg hr
    exact ⟨c, h1, blk_bare h2 hg hr, RtI.abides (z := WL.heap.size + 1) (by omega) pre A B _ h3 hg (fun r e => by cases e; exact ⟨Nat.le_refl _, hr⟩), h4⟩
  case assign =>
    rintro l pre x Wx K hI hok hK
    have HKx := hide (And.intro hI (And.intro hok hK))
    clear hI hok hK
    unfold topE0
    gi_wp2
    have bA : Below Wx.heap.size Wx (Wx.alloc (.cells #[.int .i64 (topL x : Int), .int .i64 (topR x : Int)] 123)) := (Below.refl _ _).alloc (Nat.le_refl _) _
    have gA : Wx.grownBy (Wx.alloc (.cells #[.int .i64 (topL x : Int), .int .i64 (topR x : Int)] 123)) none := ⟨bA.os, bA.tape, bA.output, bA.size, fun k hk _ => bA.block k hk⟩
    exact HKx.out.2.2 _ _ (keeps_belowT bA) (Kq.of_below bA (by have := HKx.out.1.size; omega)) ⟨_, rfl, Blk.new _ _ _, RtI.abides (z := w.heap.size) (Nat.le_refl _) pre _ _ none HKx.out.1 gA (fun r e => by cases e), HKx.out.2.1⟩
  case body =>
    rintro l pre x a' Wx ⟨c, rfl, kc, hI, hx, hx14⟩
    have HX := hide (And.intro hI (And.intro kc hx))
    have HRg := hide (blk_twoY kc)
    have c0 := (hI.bp.cell 0).trans (show _ = some (.pointer (some ⟨b, off, none⟩)) from rfl)
    clear hI kc hx
    gi_wp2_with (first
      | (refine wpListIn_load_mid rfl 123 _ rfl c 0 rfl [.int .i64 (topL x : Int), .int .i64 (topR x : Int)] _ HRg.out Tryz.underlying123 rfl infoSp ?_)
      | (refine ⟨trivial, ?_⟩; gi_at_call 71; refine (CallsIn.inRound l (callsIn_wide.2 (atS_any b off (topL x) (topR x) C t sl Ls base _ (HN.out.below HX.out.1.low) (by have := topL_le x; omega) (Nat.le_trans (firI_le _ _) (topF_le hx14))))).mono ?_; rintro e w9 ⟨rfl, b9⟩; have H9 := hide b9; clear b9; have k9 : Blk w9 (w.heap.size + 1 + 1) (rootC Ls n pre.length) 28 := HX.out.1.bx.below H9.out HX.out.1.bx.lt; have c9 := k9.cell (1 + x); have f9 := k9.frozen (1 + x); rw [Array.getElem?_eq_getElem (by rw [rootC_size]; omega)] at c9; have K9 := hide k9; clear k9))
    clear c9 f9
    have kF : ∀ z, Kq w.heap.size z (fun t => t = 28) Wx (w9.setCell ⟨w.heap.size + 1 + 1, 1 + x, none⟩ (.int .i64 ((Ls (topL x)).getD (topR x) 0))) := fun z => (Kq.of_below H9.out (by have := HX.out.1.size; omega)).trans (Kq.setC K9.out rfl (by omega))
    have hne1 : w.heap.size ≠ w.heap.size + 1 + 1 := by omega
    have hne2 : w.heap.size + 1 ≠ w.heap.size + 1 + 1 := by omega
    have HNx := hide (show RtI b off Ls n w (pre ++ [x]) (w9.setCell ⟨w.heap.size + 1 + 1, 1 + x, none⟩ (.int .i64 ((Ls (topL x)).getD (topR x) 0))) from ⟨by rw [List.length_append, List.length_singleton, ← HX.out.2.2]; omega, (HX.out.1.bp.below H9.out HX.out.1.bp.lt).other _ _ hne1, (HX.out.1.br.below H9.out HX.out.1.br.lt).other _ _ hne2, by
      have := K9.out.set (1 + x) (.int .i64 (numAt Ls x))
      rw [← HX.out.2.2, rootC_set Ls n x hx14] at this
      rw [List.length_append, List.length_singleton, ← HX.out.2.2]
      exact this, HX.out.1.low.trans (kF 0).below, Nat.le_trans HX.out.1.size (kF 0).size⟩)
    exact ⟨(kF _).keepsZ, kF _, HNx.out⟩
  case done =>
    rintro xs Wx hS hI hK
    subst hS
    have hx := hI.bx
    rw [List.length_range] at hx
    have HX := hide (And.intro hx (And.intro hI.br (And.intro hI.low hK)))
    obtain ⟨RF, hRF⟩ : ∃ RF, RF = rootC Ls n 14 := ⟨_, rfl⟩
    rw [← hRF] at HX
    have HRF := hide hRF
    have HIn := hide (show (Tryz.prog.info? 28).map (·.size) = some RF.size from by rw [hRF, rootC_size]; exact infoRtY)
    have HO := hide (show RF.all (·.oneCell') = true from by rw [hRF]; exact i64_one _)
    have HSz := hide (show (cellsI (List.replicate 15 0)).size = RF.size from by rw [hRF, rootC_size]; rfl)
    clear hI hK hx hRF
    gi_upto_region 6 with fail
    refine wpIn_wide.2 ?_
    go_wp2_with (first
      | (refine wpList_load_row rfl 28 _ rfl (w.heap.size + 1 + 1) rfl 28 RF (0, 0) _ HX.out.1 Tryz.underlying28 rfl HIn.out ?_)
      | (refine wpList_store_row rfl 28 _ _ rfl (w.heap.size + 1) RF rfl rfl 28 (cellsI (List.replicate 15 0)) HX.out.2.1 HIn.out HSz.out HO.out ?_))
    gi_wp2
    have hD : (Wx.setRow (w.heap.size + 1) RF).heap[WL.heap.size]? = some (.deferred (some [])) := (setRow_other Wx (w.heap.size + 1) WL.heap.size RF (by omega)).trans HX.out.2.2.2
    have hg : Blk (Wx.setRow (w.heap.size + 1) RF) (w.heap.size + 1) RF 28 := HX.out.2.1.row _
    have hbE : Below w.heap.size w (Wx.setRow (w.heap.size + 1) RF) := below_setRow HX.out.2.2.1 (by omega) _
    refine ⟨by simp, .inl ⟨_, _, rfl, run_takeDeferred hD, ?_⟩⟩
    refine ⟨_, results_cell_row rfl _ _ (w.heap.size + 1) 28 _ (0, 0) _ rfl (blk_put _ hg hD rfl) Tryz.underlying28 rfl HIn.out, by rw [HRF.out], ?_⟩
    exact hbE.trans (belowK_b (w := w) (Nat.le_refl _) _ WL.heap.size _ (.deferred none) (by omega) hD rfl rfl)
  case stop =>
    rintro c pre W _ hf
    exact hf.elim
end Go.Proofs.YtlimollpocagiaaGreatDoor

namespace Go.Proofs.YtlimollpocagiaaGreatDoor
set_option linter.unusedVariables false
set_option linter.unusedSimpArgs false
open Go.RowKit

def rootTo (n : Nat) (g : Nat → Int) (k : Nat) : List Int := (4 * (n : Int)) :: (List.range 14).map (fun j => if j < k then g j else 0)
theorem rootTo_size (n : Nat) (g : Nat → Int) (k : Nat) : (cellsI (rootTo n g k)).size = 15 := by simp [rootTo, cellsI_size]
theorem rootTo_set (n : Nat) (g : Nat → Int) (k : Nat) (h : k < 14) : (cellsI (rootTo n g k)).setIfInBounds (1 + k) (.int .i64 (g k)) = cellsI (rootTo n g (k + 1)) := by
  apply Array.ext_getElem?
  intro i
  rw [Array.getElem?_setIfInBounds, rootTo_size]
  cases i with
  | zero =>
    rw [if_neg (by omega)]
    simp [rootTo, cellsI]
  | succ j =>
    by_cases e : 1 + k = j + 1
    · rw [if_pos e, if_pos (by omega)]
      obtain rfl : k = j := by omega
      simp [rootTo, cellsI, h]
    · rw [if_neg e]
      by_cases hj : j < 14
      · simp only [rootTo, cellsI, List.getElem?_toArray, List.map_cons, List.getElem?_cons_succ, List.getElem?_map, List.getElem?_range hj, Option.map_some]
        by_cases hjk : j < k
        · rw [if_pos hjk, if_pos (by omega)]
        · rw [if_neg hjk, if_neg (by omega)]
      · simp [rootTo, cellsI, hj]
/-- What l04Root tells. -/
def rootM (m n : Nat) (g : Nat → Int) (sp : Int) : Array Value := if 12 < m then (cellsI (rootTo n g 12)).setIfInBounds 13 (.int .i64 sp) else cellsI (rootTo n g m)
theorem rootM_one (m n : Nat) (g : Nat → Int) (sp : Int) : (rootM m n g sp).all (·.oneCell') = true := by
  have h : ∀ (L : List Int), (cellsI L).all (·.oneCell') = true := fun L => i64_one _
  unfold rootM
  split
  · have e : (cellsI (rootTo n g 12)).setIfInBounds 13 (.int .i64 sp) = cellsI ((rootTo n g 12).set 13 sp) := by unfold cellsI; simp [List.map_set]
    rw [e]; exact h _
  · exact h _
set_option maxRecDepth 100000 in
set_option maxHeartbeats 2000000 in
theorem rootM_any (base b m n : Nat) (C : Array Value) (R : Nat → Value) (LL : Nat → List Int) (cu sg : Int) (fu : Bool) (w : World) (h : Fm w base b C R LL cu sg fu) (hp : (LL 2).length = m + 1) (hd : ∀ k, k < m → (LL 2).getD k 0 = 0 → k < (LL 4).length) (hm : m ≤ 16) (hn : n ≤ 2048) :
    Calls Tryz.prog 37 #[.pointer (some ⟨b, 0, none⟩), .int .i64 (n : Int), .int .i64 (m : Int)] w fun e w' => e = .returned (.agg (rootM m n (gM LL) (if (LL 2).getD m 0 = 0 then sg else (LL 2).getD m 0))) ∧ Below w.heap.size w w' := by
  obtain ⟨sp, hsp⟩ : ∃ sp, sp = if (LL 2).getD m 0 = 0 then sg else (LL 2).getD m 0 := ⟨_, rfl⟩
  rw [← hsp]
  have HSP := hide hsp
  have HNow := hide (show ∀ W, Below w.heap.size w W → ∀ k : Nat, k < m → Calls Tryz.prog 84 #[.pointer (some ⟨b, 0, none⟩), .int .i64 (k : Int)] W fun e w' => e = .returned (.int .i64 (gM LL k)) ∧ w' = W from fun W hW k hk => nowM_any base b k C R LL cu sg fu W (h.below hW) (by omega) (hd k hk) (by omega))
  have H := hide (And.intro h hp)
  obtain ⟨W2, hW2⟩ : ∃ W2, W2 = (w.alloc (.cells (cellsI (List.replicate 15 0)) 28)).alloc (.cells (cellsI (rootTo n (gM LL) 0)) 28) := ⟨_, rfl⟩
  clear h hp hd hsp
  go_enter Tryz.func37, Tryz.ntmps37
  go_upto_region 3 with fail
  generalize hW : World.alloc (World.alloc w _) _ = Wx
  have HW := hide (show ∃ Z0 : Array Value, Z0.size = 15 ∧ Blk Wx w.heap.size Z0 28 ∧ Blk Wx (w.heap.size + 1) (cellsI (rootTo n (gM LL) 0)) 28 ∧ Below w.heap.size w Wx from by
    rw [← hW]
    refine ⟨_, rfl, (Blk.new w _ _).alloc _, ?_, ((Below.refl _ _).alloc (Nat.le_refl _) _).alloc (by simp) _⟩
    have h := Blk.new (w.alloc (.cells #[.int .i64 0, .int .i64 0, .int .i64 0, .int .i64 0, .int .i64 0, .int .i64 0, .int .i64 0, .int .i64 0, .int .i64 0, .int .i64 0, .int .i64 0, .int .i64 0, .int .i64 0, .int .i64 0, .int .i64 0] 28)) (cellsI (rootTo n (gM LL) 0)) 28
    rw [World.size_alloc] at h
    exact h)
  clear hW hW2 W2
  obtain ⟨Z0, hz0, k0, k1, b0⟩ := HW.out
  have H0 := hide (And.intro k0 (And.intro k1 b0))
  have HZ0 := hide hz0
  clear HW hz0 k0 k1 b0
  go_wp2
  go_loopw [8] (fun i wr => ∃ k : Nat, k ≤ m ∧ k ≤ 12 ∧ i = .int .i64 (k : Int) ∧ Hid (Blk wr w.heap.size Z0 28 ∧ Blk wr (w.heap.size + 1) (cellsI (rootTo n (gM LL) k)) 28 ∧ Below w.heap.size w wr)) (fun i _ => 12 - (intOf i).toNat)
  case atStart => exact ⟨0, by omega, by omega, rfl, H0⟩
  case round =>
    obtain ⟨k, hk1, hk2, rfl, HI⟩ := hrel
    have hws : w.heap.size ≤ wr.heap.size := HI.out.2.2.size
    by_cases hkm : k < m
    · have hkmI : (k : Int) < (m : Int) := by omega
      by_cases hk12 : k < 12
      · have hkI : (k : Int) < 12 := by omega
        obtain ⟨y, hy⟩ : ∃ y, y = gM LL k := ⟨_, rfl⟩
        have HY := hide hy
        have HCa := hide (HNow.out wr HI.out.2.2 k hkm)
        rw [← hy] at HCa
        have ck : ∃ v, wr.cell? ⟨w.heap.size + 1, 1 + k, none⟩ = some v := ⟨_, (HI.out.2.1.cell (1 + k)).trans (Array.getElem?_eq_getElem (by rw [rootTo_size]; omega))⟩
        obtain ⟨v0, ck⟩ := ck
        have fk := HI.out.2.1.frozen (1 + k)
        clear hy
        go_wp2_with (first
          | (go_at_call 84
             refine HCa.out.mono ?_
             rintro e w3 ⟨rfl, hw3⟩
             rw [hw3]
             clear hw3)
          | fail)
        go_roundw
        case rel =>
          refine ⟨k + 1, by omega, by omega, by go_num, hide ⟨HI.out.1.other _ _ (show w.heap.size ≠ w.heap.size + 1 by omega), ?_, HI.out.2.2.setCell (p := ⟨w.heap.size + 1, 1 + k, none⟩) (by simp) _⟩⟩
          have h := HI.out.2.1.set (1 + k) (.int .i64 y)
          rw [HY.out, rootTo_set _ _ _ (by omega)] at h
          rw [HY.out]
          exact h
        case measure => simp [intOf]; omega
      · have hkI : ¬ ((k : Int) < 12) := by omega
        obtain rfl : k = 12 := by omega
        have hmI : (12 : Int) < (m : Int) := by omega
        have hF := H.out.1.below HI.out.2.2
        have hpl := H.out.2
        obtain ⟨g2, q2, _, hg2, c11, hc2⟩ := hF.at (j := 2) (by omega) (by omega)
        have c11' : wr.cell? ⟨b, 11, none⟩ = some (.slice (some ⟨g2, 0, none⟩) (m + 1) q2) := by rw [← hpl]; exact c11
        have c3 : wr.cell? ⟨b, 3, none⟩ = some (.int .i64 sg) := (hF.box.cell 3).trans hF.sing
        have em := (hc2 m (by omega)).1
        have hb1 : b ≠ w.heap.size + 1 := fun e => by have := H.out.1.box.lt; omega
        have hg1 : g2 ≠ w.heap.size + 1 := fun e => by have := ((H.out.1.row 2 (by omega)).lt g2 hg2).2; omega
        have ck : ∃ v, wr.cell? ⟨w.heap.size + 1, 13, none⟩ = some v := ⟨_, (HI.out.2.1.cell 13).trans (Array.getElem?_eq_getElem (by rw [rootTo_size]; omega))⟩
        obtain ⟨v0, ck⟩ := ck
        have fk := HI.out.2.1.frozen 13
        obtain ⟨y, hy⟩ : ∃ y, y = (LL 2).getD m 0 := ⟨_, rfl⟩
        have HY := hide hy
        rw [← hy] at em
        obtain ⟨w4, hw4⟩ : ∃ w4, w4 = wr.setCell ⟨w.heap.size + 1, 13, none⟩ (.int .i64 sg) := ⟨_, rfl⟩
        have d11 : w4.cell? ⟨b, 11, none⟩ = some (.slice (some ⟨g2, 0, none⟩) (m + 1) q2) := by rw [hw4]; exact (World.cell?_of_block (a := ⟨b, 11, none⟩) (Below.heap_setCell wr _ _ b (fun e => hb1 e))).trans c11'
        have dm : w4.cell? ⟨g2, m, none⟩ = some (.int .i64 y) := by rw [hw4]; exact (World.cell?_of_block (a := ⟨g2, m, none⟩) (Below.heap_setCell wr _ _ g2 (fun e => hg1 e))).trans em
        have K4 := hide (show Blk w4 w.heap.size Z0 28 ∧ Blk w4 (w.heap.size + 1) ((cellsI (rootTo n (gM LL) 12)).setIfInBounds 13 (.int .i64 sg)) 28 ∧ Below w.heap.size w w4 from by
          rw [hw4]
          exact ⟨HI.out.1.other _ _ (show w.heap.size ≠ w.heap.size + 1 by omega), HI.out.2.1.set 13 _, HI.out.2.2.setCell (p := ⟨w.heap.size + 1, 13, none⟩) (by simp) _⟩)
        have HW4 := hide hw4
        clear hy hF hc2 c11 hw4 hpl
        go_upto_region 8 with fail
        rw [← HW4.out]
        clear c11' c3 em ck fk
        by_cases hy0 : y = 0
        · have hq : (y != 0) = false := by simp [hy0]
          have HS0 := hide (show sp = sg from by rw [HSP.out, ← HY.out, if_pos hy0])
          clear hy0
          obtain ⟨RF, hRF⟩ : ∃ RF, RF = rootM m n (gM LL) sp := ⟨_, rfl⟩
          have HRF := hide hRF
          have HRs := hide (show RF.size = 15 from by rw [hRF]; unfold rootM; split <;> simp [rootTo_size])
          have HIn := hide (show (Tryz.prog.info? 28).map (·.size) = some RF.size from by rw [HRs.out]; exact infoRtY)
          have HO1 := hide (show RF.all (·.oneCell') = true from by rw [hRF]; exact rootM_one _ _ _ _)
          have HF := hide (show Blk w4 w.heap.size Z0 28 ∧ Blk w4 (w.heap.size + 1) RF 28 ∧ Below w.heap.size w w4 from ⟨K4.out.1, by rw [hRF]; unfold rootM; rw [if_pos (by omega), HS0.out]; exact K4.out.2.1, K4.out.2.2⟩)
          clear hRF
          go_wp2_with (first
          | (refine wpList_load_row rfl 28 _ rfl (w.heap.size + 1) rfl 28 RF (0, 0) _ HF.out.2.1 Tryz.underlying28 rfl HIn.out ?_)
          | (refine wpList_store_row rfl 28 _ _ rfl w.heap.size RF rfl rfl 28 Z0 HF.out.1 HIn.out (by rw [HZ0.out, HRs.out]) HO1.out ?_)
          | fail)
          refine bodyPost_ret (v := .agg RF) (results_cell_row rfl _ _ w.heap.size 28 _ (0, 0) _ rfl (HF.out.1.row _) Tryz.underlying28 rfl HIn.out) rfl ⟨by rw [HRF.out], below_setRow HF.out.2.2 (Nat.le_refl _) _⟩
        · have hq : (y != 0) = true := by simpa using hy0
          have HS0 := hide (show sp = y from by rw [HSP.out, ← HY.out, if_neg hy0])
          have ck : ∃ v, w4.cell? ⟨w.heap.size + 1, 13, none⟩ = some v := ⟨_, (K4.out.2.1.cell 13).trans (Array.getElem?_eq_getElem (by rw [Array.size_setIfInBounds, rootTo_size]; omega))⟩
          obtain ⟨v1, ck⟩ := ck
          have fk := K4.out.2.1.frozen 13
          clear hy0
          go_upto_region 10 with fail
          obtain ⟨w5, hw5⟩ : ∃ w5, w5 = w4.setCell ⟨w.heap.size + 1, 13, none⟩ (.int .i64 y) := ⟨_, rfl⟩
          rw [← hw5]
          have K5 := hide (show Blk w5 w.heap.size Z0 28 ∧ Blk w5 (w.heap.size + 1) ((cellsI (rootTo n (gM LL) 12)).setIfInBounds 13 (.int .i64 y)) 28 ∧ Below w.heap.size w w5 from by
            rw [hw5]
            refine ⟨K4.out.1.other _ _ (show w.heap.size ≠ w.heap.size + 1 by omega), ?_, K4.out.2.2.setCell (p := ⟨w.heap.size + 1, 13, none⟩) (by simp) _⟩
            have h := K4.out.2.1.set 13 (.int .i64 y)
            rw [show ((cellsI (rootTo n (gM LL) 12)).setIfInBounds 13 (.int .i64 sg)).setIfInBounds 13 (.int .i64 y) = (cellsI (rootTo n (gM LL) 12)).setIfInBounds 13 (.int .i64 y) from by simp] at h
            exact h)
          clear hw5 ck fk d11 dm
          obtain ⟨RF, hRF⟩ : ∃ RF, RF = rootM m n (gM LL) sp := ⟨_, rfl⟩
          have HRF := hide hRF
          have HRs := hide (show RF.size = 15 from by rw [hRF]; unfold rootM; split <;> simp [rootTo_size])
          have HIn := hide (show (Tryz.prog.info? 28).map (·.size) = some RF.size from by rw [HRs.out]; exact infoRtY)
          have HO1 := hide (show RF.all (·.oneCell') = true from by rw [hRF]; exact rootM_one _ _ _ _)
          have HF := hide (show Blk w5 w.heap.size Z0 28 ∧ Blk w5 (w.heap.size + 1) RF 28 ∧ Below w.heap.size w w5 from ⟨K5.out.1, by rw [hRF]; unfold rootM; rw [if_pos (by omega), HS0.out]; exact K5.out.2.1, K5.out.2.2⟩)
          clear hRF
          go_wp2_with (first
          | (refine wpList_load_row rfl 28 _ rfl (w.heap.size + 1) rfl 28 RF (0, 0) _ HF.out.2.1 Tryz.underlying28 rfl HIn.out ?_)
          | (refine wpList_store_row rfl 28 _ _ rfl w.heap.size RF rfl rfl 28 Z0 HF.out.1 HIn.out (by rw [HZ0.out, HRs.out]) HO1.out ?_)
          | fail)
          refine bodyPost_ret (v := .agg RF) (results_cell_row rfl _ _ w.heap.size 28 _ (0, 0) _ rfl (HF.out.1.row _) Tryz.underlying28 rfl HIn.out) rfl ⟨by rw [HRF.out], below_setRow HF.out.2.2 (Nat.le_refl _) _⟩
    · have hkmI : ¬ ((k : Int) < (m : Int)) := by omega
      obtain rfl : k = m := by omega
      have hg12 : ¬ ((12 : Int) < (k : Int)) := by omega
      obtain ⟨RF, hRF⟩ : ∃ RF, RF = rootM k n (gM LL) sp := ⟨_, rfl⟩
      have HRF := hide hRF
      have HRs := hide (show RF.size = 15 from by rw [hRF]; unfold rootM; split <;> simp [rootTo_size])
      have HIn := hide (show (Tryz.prog.info? 28).map (·.size) = some RF.size from by rw [HRs.out]; exact infoRtY)
      have HO1 := hide (show RF.all (·.oneCell') = true from by rw [hRF]; exact rootM_one _ _ _ _)
      have HF := hide (show Blk wr w.heap.size Z0 28 ∧ Blk wr (w.heap.size + 1) RF 28 ∧ Below w.heap.size w wr from ⟨HI.out.1, by rw [hRF]; unfold rootM; rw [if_neg (by omega)]; exact HI.out.2.1, HI.out.2.2⟩)
      clear hRF
      go_wp2_with (first
        | (refine wpList_load_row rfl 28 _ rfl (w.heap.size + 1) rfl 28 RF (0, 0) _ HF.out.2.1 Tryz.underlying28 rfl HIn.out ?_)
        | (refine wpList_store_row rfl 28 _ _ rfl w.heap.size RF rfl rfl 28 Z0 HF.out.1 HIn.out (by rw [HZ0.out, HRs.out]) HO1.out ?_)
        | fail)
      refine bodyPost_ret (v := .agg RF) (results_cell_row rfl _ _ w.heap.size 28 _ (0, 0) _ rfl (HF.out.1.row _) Tryz.underlying28 rfl HIn.out) rfl ⟨by rw [HRF.out], below_setRow HF.out.2.2 (Nat.le_refl _) _⟩
end Go.Proofs.YtlimollpocagiaaGreatDoor
