/- A map in the writing, in memory; the program's isStale. Slices of Put: copies (toPut, toPutS), two that are the same held against each other (eqPut, eqPutS). A copy of a slice of Put: toPutS. -/
import Derived.Test.YtlimollpocagiaaGreatDoorZr23
import Derived.Test.YtlimollpocagiaaGreatDoorZr06
import Derived.Test.YtlimollpocagiaaGreatDoorZr02
import Derived.Deep.MidRow
import Derived.Deep.RegionHeld3
namespace Go.Proofs.YtlimollpocagiaaGreatDoor
open List (getElem_toArray getElem_cons_zero getElem_cons_succ setIfInBounds_toArray set_cons_zero set_cons_succ)
set_option linter.unusedVariables false
set_option linter.unusedSimpArgs false
open Go.RowKit

def spC : List (Nat × Nat) → List Value
  | [] => []
  | p :: L => .int .i64 (p.1 : Int) :: .int .i64 (p.2 : Int) :: spC L
theorem spC_append : ∀ A B, spC (A ++ B) = spC A ++ spC B
  | [], B => rfl
  | p :: A, B => by simp only [List.cons_append, spC, spC_append A B]
/-- A flush in memory: its eight rows of integers (before, words, old, given), its order, its cursor. -/
structure Fl (W : World) (base b : Nat) (C : Array Value) (R : Nat → Value) (LL : Nat → List Int) (vo : Value) (od : List (Nat × Nat)) (cu : Int) : Prop where
  box : Blk W b C 113
  at_ : ∀ j, j < 8 → C[j]? = some (R j)
  row : ∀ j, j < 8 → W.ownsRow base 3 1 (R j) (LL j).length ((LL j).map (Value.int .i64))
  apart : ∀ i j, i < 8 → j < 8 → i ≠ j → (R i).ownBlock = none ∨ (R i).ownBlock ≠ (R j).ownBlock
  ord : C[8]? = some vo
  orow : W.ownsRow base 123 2 vo od.length (spC od)
  cur : C[9]? = some (.int .i64 cu)
theorem Fl.below {W W' : World} {base b : Nat} {C : Array Value} {R : Nat → Value} {LL : Nat → List Int} {vo : Value} {od : List (Nat × Nat)} {cu : Int} (h : Fl W base b C R LL vo od cu) (hb : Below W.heap.size W W') : Fl W' base b C R LL vo od cu :=
  ⟨h.box.below hb h.box.lt, h.at_, fun j hj => own_below (h.row j hj) hb, h.apart, h.ord, own_below h.orow hb, h.cur⟩
theorem Fl.old {W : World} {base b : Nat} {C : Array Value} {R : Nat → Value} {LL : Nat → List Int} {vo : Value} {od : List (Nat × Nat)} {cu : Int} (h : Fl W base b C R LL vo od cu) : NumS W base b 2 C 113 (fun l => R (2 + l)) (fun l => LL (2 + l)) :=
  ⟨h.box, fun l hl => h.at_ (2 + l) (by omega), fun l hl => h.row (2 + l) (by omega), fun l m hl hm hne => h.apart (2 + l) (2 + m) (by omega) (by omega) (by omega)⟩
theorem Fl.giv {W : World} {base b : Nat} {C : Array Value} {R : Nat → Value} {LL : Nat → List Int} {vo : Value} {od : List (Nat × Nat)} {cu : Int} (h : Fl W base b C R LL vo od cu) : NumS W base b 5 C 113 (fun l => R (5 + l)) (fun l => LL (5 + l)) :=
  ⟨h.box, fun l hl => h.at_ (5 + l) (by omega), fun l hl => h.row (5 + l) (by omega), fun l m hl hm hne => h.apart (5 + l) (5 + m) (by omega) (by omega) (by omega)⟩
theorem Fl.rd {W : World} {base b : Nat} {C : Array Value} {R : Nat → Value} {LL : Nat → List Int} {vo : Value} {od : List (Nat × Nat)} {cu : Int} (h : Fl W base b C R LL vo od cu) (j : Nat) (hj : j < 8) : ∃ a c, R j = .slice a (LL j).length c ∧ C[j]? = some (.slice a (LL j).length c) ∧ Rd .i64 W (.slice a (LL j).length c) (LL j) := by
  obtain ⟨a, c, e⟩ := own_shape (h.row j hj)
  refine ⟨a, c, e, by rw [← e]; exact h.at_ j hj, ?_⟩
  rw [← e]
  exact Rd.own (h.row j hj)
/-- Whether the block at a spot is stale. -/
def stP (LL : Nat → List Int) (l r : Nat) : Bool := decide ((LL (5 + l)).getD r 0 = 0) && (decide ((LL (2 + l)).getD r 0 = 0) || if l = 0 then decide (partW (LL 1) r ≠ partW (LL 0) r) else decide (wordsN (fun l => LL (5 + l)) 0 r ≠ List.replicate 128 0))
theorem yieldsIf_neqA {P : Program} {ops : Array Oper} {S : World → Prop} {o : Oper} {a : Act} (hw : Region.wanted o (yielded ops a.tmps) = true) (t u : TypeId) (x y : Operand) (ho : o.op = .binOp .neq t x y u)
    (cs ds : Array Value) (hx : a.eval x = .agg cs) (hy : a.eval y = .agg ds) (hm : P.eqGuardType P.depth t = false) (b : Bool) (hE : ∀ w, (Op.equalIn 10000 t (.agg cs) (.agg ds)).run P w = .ok b w) : YieldsIf P ops S o (.bool (!b)) a :=
  .inl ⟨hw, fun w hw' => by simp [execOp, ho, hx, hy, run_eqGuard_agg w _ _ _ _ _ _ hm, run_neq_struct, hE w, Result.andThen]⟩
theorem rangeSp {w : World} {g l r : Nat} (h : Blk w g #[.int .i64 (l : Int), .int .i64 (r : Int)] 123) : w.rangeAt g 0 [.int .i64 (l : Int), .int .i64 (r : Int)] := by
  intro j v hj
  rw [Nat.zero_add, h.cell j]
  simpa using hj
theorem buildBw : ∃ Z : Array Value, Z = ((List.replicate 128 (0 : Int)).map (Value.int .i64)).toArray ∧ ∀ (ρ : Operand → Value) (o : Oper) (w : World), o.op = .build 127 #[] → (execOp ρ o).run Tryz.prog w = .ok (.value (.agg Z)) w := by
  refine ⟨_, rfl, fun ρ o w ho => ?_⟩
  rw [zerosA]
  simp only [execOp, ho]
  kernel_rfl
set_option maxRecDepth 100000 in
set_option maxHeartbeats 4000000 in
theorem isStale_any (base b l r : Nat) (C : Array Value) (R : Nat → Value) (LL : Nat → List Int) (vo : Value) (od : List (Nat × Nat)) (cu : Int) (w : World) (h : Fl w base b C R LL vo od cu) (hl : l < 2) (hr : r ≤ 700) (hn1 : l = 0 → 128 * r < (LL 1).length ∧ 128 * r < (LL 0).length) (hn2 : (LL 0).length ≤ 2048 ∧ (LL 1).length ≤ 2048) :
    Calls Tryz.prog 66 #[.pointer (some ⟨b, 0, none⟩), spotV l r] w fun e w' => e = .returned (.bool (stP LL l r)) ∧ Below w.heap.size w w' := by
  obtain ⟨W1, hW1⟩ : ∃ W1, W1 = w.alloc (.cells #[.int .i64 (l : Int), .int .i64 (r : Int)] 123) := ⟨_, rfl⟩
  have B1 := hide (show Below w.heap.size w W1 from by rw [hW1]; exact (Below.refl _ _).alloc (Nat.le_refl _) _)
  have K1 := hide (show Blk W1 w.heap.size #[.int .i64 (l : Int), .int .i64 (r : Int)] 123 from by rw [hW1]; exact Blk.new w _ _)
  have HW := hide hW1
  have HF := hide (h.below B1.out)
  have HH := hide (And.intro hl (And.intro hr (And.intro hn1 hn2)))
  obtain ⟨x, hx⟩ : ∃ x, x = (LL (5 + l)).getD r 0 := ⟨_, rfl⟩
  obtain ⟨y, hy⟩ : ∃ y, y = (LL (2 + l)).getD r 0 := ⟨_, rfl⟩
  have HX := hide hx
  have HY := hide hy
  clear hW1 h hl hr hn1 hn2 hx hy
  go_enter Tryz.func66, Tryz.ntmps66
  unfold spotV
  go_upto_region 1 with fail
  rw [← HW.out]
  refine wp_region_noPanic ?_
  refine wp_region_held_drew (S := fun w' => Blk w' w.heap.size #[.int .i64 (l : Int), .int .i64 (r : Int)] 123) (by kernel_rfl) (show Blk W1.drew w.heap.size #[.int .i64 (l : Int), .int .i64 (r : Int)] 123 from K1.out) (fun hH => ?_)
  refine wpAnyH_take (i := 0) (oi := _) (v := .pointer (some ⟨b, 0, none⟩)) rfl (by kernel_rfl) (by kernel_rfl) (by kernel_rfl) (fun _ _ _ h => h) (Or.inl ⟨by rfl, fun w' hw' => by go_simp⟩) hH ?_
  try simp only [Act.put, getElem_toArray, getElem_cons_zero, getElem_cons_succ, setIfInBounds_toArray, set_cons_zero, set_cons_succ]
  refine wpAnyH_take (i := 1) (oi := _) (v := .pointer (some ⟨b, 0, none⟩)) rfl (by kernel_rfl) (by kernel_rfl) (by kernel_rfl) (fun _ _ _ h => h) (Or.inl ⟨by rfl, fun w' hw' => by go_simp⟩) hH ?_
  try simp only [Act.put, getElem_toArray, getElem_cons_zero, getElem_cons_succ, setIfInBounds_toArray, set_cons_zero, set_cons_succ]
  refine wpAnyH_take (i := 2) (oi := _) (v := .pointer (some ⟨b, 5, none⟩)) rfl (by kernel_rfl) (by kernel_rfl) (by kernel_rfl) (fun _ _ _ h => h) (Or.inl ⟨by rfl, fun w' hw' => by go_simp⟩) hH ?_
  try simp only [Act.put, getElem_toArray, getElem_cons_zero, getElem_cons_succ, setIfInBounds_toArray, set_cons_zero, set_cons_succ]
  refine wpAnyH_take (i := 3) (oi := _) (v := .agg #[.int .i64 (l : Int), .int .i64 (r : Int)]) rfl (by kernel_rfl) (by kernel_rfl) (by kernel_rfl) (fun _ _ _ h => h) (yieldsIf_load_mid (by rfl) 123 _ rfl w.heap.size 0 rfl [.int .i64 (l : Int), .int .i64 (r : Int)] _ (fun w' h => rangeSp h) Tryz.underlying123 rfl infoSp) hH ?_
  try simp only [Act.put, getElem_toArray, getElem_cons_zero, getElem_cons_succ, setIfInBounds_toArray, set_cons_zero, set_cons_succ]
  refine wpAnyH_ready (rs := [4]) (by kernel_rfl) (by simp) ?_
  refine AllReadyH.cons (o := _) rfl ?_ AllReadyH.nil
  intro K hK
  go_simp
  refine (atS_any b 5 l r C 113 _ _ base _ (HF.out.giv.below (Below.refl _ _).drew) (by have := HH.out.1; omega) (by have := HH.out.2.1; omega)).mono ?_
  rintro e w2 ⟨rfl, b2⟩
  have B2 := hide (show Below W1.heap.size W1 w2 from ((Below.refl _ _).drew).trans b2)
  have K2 := hide (K1.out.below B2.out K1.out.lt)
  refine hK.out _ _ K2.out (fun hH => ?_)
  clear hK K b2
  try simp only [Act.put, getElem_toArray, getElem_cons_zero, getElem_cons_succ, setIfInBounds_toArray, set_cons_zero, set_cons_succ]
  rw [← HX.out]
  refine wpAnyH_take (i := 5) (oi := _) (v := .bool (x != 0)) rfl (by kernel_rfl) (by kernel_rfl) (by kernel_rfl) (fun _ _ _ h => h) (Or.inl ⟨by rfl, fun w' hw' => by go_simp⟩) hH ?_
  try simp only [Act.put, getElem_toArray, getElem_cons_zero, getElem_cons_succ, setIfInBounds_toArray, set_cons_zero, set_cons_succ]
  refine wpAnyH_ready (rs := [6]) (by kernel_rfl) (by simp) ?_
  refine AllReadyH.cons (o := _) rfl ?_ AllReadyH.nil
  intro K hK
  go_simp
  refine hK.out _ _ K2.out (fun hH => ?_)
  clear hK K
  try simp only [Act.put, getElem_toArray, getElem_cons_zero, getElem_cons_succ, setIfInBounds_toArray, set_cons_zero, set_cons_succ]
  refine wpAnyH_done (by kernel_rfl) (NoPanic.normal ?_) _
  clear hH
  have F2 := hide (HF.out.below B2.out)
  have Q2 := hide (B1.out.trans (B2.out.mono B1.out.size))
  clear B2 HF B1 K1 HW
  by_cases hx0 : x = 0
  case neg =>
    have hxb : (x != 0) = true := by simpa using hx0
    have HR := hide (show stP LL l r = false from by unfold stP; rw [← HX.out, decide_eq_false hx0]; rfl)
    rw [hxb]
    clear hx0 hxb
    go_wp2
    go_ret
    exact ⟨by rw [HR.out]; rfl, Q2.out⟩
  have hxb : (x != 0) = false := by simp [hx0]
  have HX0 := hide hx0
  rw [hxb]
  clear hx0 hxb
  go_upto_region 3 with fail
  refine wp_region_noPanic ?_
  refine wp_region_held_drew (S := fun w' => Blk w' w.heap.size #[.int .i64 (l : Int), .int .i64 (r : Int)] 123) (by kernel_rfl) (show Blk w2.drew w.heap.size #[.int .i64 (l : Int), .int .i64 (r : Int)] 123 from K2.out) (fun hH => ?_)
  refine wpAnyH_take (i := 0) (oi := _) (v := .pointer (some ⟨b, 0, none⟩)) rfl (by kernel_rfl) (by kernel_rfl) (by kernel_rfl) (fun _ _ _ h => h) (Or.inl ⟨by rfl, fun w' hw' => by go_simp⟩) hH ?_
  try simp only [Act.put, getElem_toArray, getElem_cons_zero, getElem_cons_succ, setIfInBounds_toArray, set_cons_zero, set_cons_succ]
  refine wpAnyH_take (i := 1) (oi := _) (v := .pointer (some ⟨b, 0, none⟩)) rfl (by kernel_rfl) (by kernel_rfl) (by kernel_rfl) (fun _ _ _ h => h) (Or.inl ⟨by rfl, fun w' hw' => by go_simp⟩) hH ?_
  try simp only [Act.put, getElem_toArray, getElem_cons_zero, getElem_cons_succ, setIfInBounds_toArray, set_cons_zero, set_cons_succ]
  refine wpAnyH_take (i := 2) (oi := _) (v := .pointer (some ⟨b, 2, none⟩)) rfl (by kernel_rfl) (by kernel_rfl) (by kernel_rfl) (fun _ _ _ h => h) (Or.inl ⟨by rfl, fun w' hw' => by go_simp⟩) hH ?_
  try simp only [Act.put, getElem_toArray, getElem_cons_zero, getElem_cons_succ, setIfInBounds_toArray, set_cons_zero, set_cons_succ]
  refine wpAnyH_take (i := 3) (oi := _) (v := .agg #[.int .i64 (l : Int), .int .i64 (r : Int)]) rfl (by kernel_rfl) (by kernel_rfl) (by kernel_rfl) (fun _ _ _ h => h) (yieldsIf_load_mid (by rfl) 123 _ rfl w.heap.size 0 rfl [.int .i64 (l : Int), .int .i64 (r : Int)] _ (fun w' h => rangeSp h) Tryz.underlying123 rfl infoSp) hH ?_
  try simp only [Act.put, getElem_toArray, getElem_cons_zero, getElem_cons_succ, setIfInBounds_toArray, set_cons_zero, set_cons_succ]
  refine wpAnyH_ready (rs := [4]) (by kernel_rfl) (by simp) ?_
  refine AllReadyH.cons (o := _) rfl ?_ AllReadyH.nil
  intro K hK
  go_simp
  refine (atS_any b 2 l r C 113 _ _ base _ (F2.out.old.below (Below.refl _ _).drew) (by have := HH.out.1; omega) (by have := HH.out.2.1; omega)).mono ?_
  rintro e w3 ⟨rfl, b3⟩
  have B3 := hide (show Below w2.heap.size w2 w3 from ((Below.refl _ _).drew).trans b3)
  have K3 := hide (K2.out.below B3.out K2.out.lt)
  refine hK.out _ _ K3.out (fun hH => ?_)
  clear hK K b3
  try simp only [Act.put, getElem_toArray, getElem_cons_zero, getElem_cons_succ, setIfInBounds_toArray, set_cons_zero, set_cons_succ]
  rw [← HY.out]
  refine wpAnyH_take (i := 5) (oi := _) (v := .bool (y == 0)) rfl (by kernel_rfl) (by kernel_rfl) (by kernel_rfl) (fun _ _ _ h => h) (Or.inl ⟨by rfl, fun w' hw' => by go_simp⟩) hH ?_
  try simp only [Act.put, getElem_toArray, getElem_cons_zero, getElem_cons_succ, setIfInBounds_toArray, set_cons_zero, set_cons_succ]
  refine wpAnyH_ready (rs := [6]) (by kernel_rfl) (by simp) ?_
  refine AllReadyH.cons (o := _) rfl ?_ AllReadyH.nil
  intro K hK
  go_simp
  refine hK.out _ _ K3.out (fun hH => ?_)
  clear hK K
  try simp only [Act.put, getElem_toArray, getElem_cons_zero, getElem_cons_succ, setIfInBounds_toArray, set_cons_zero, set_cons_succ]
  refine wpAnyH_done (by kernel_rfl) (NoPanic.normal ?_) _
  clear hH
  have F3 := hide (F2.out.below B3.out)
  have Q3 := hide (Q2.out.trans (B3.out.mono Q2.out.size))
  clear B3 F2 Q2 K2
  by_cases hy0 : y = 0
  case pos =>
    have hyb : (y == 0) = true := by simpa using hy0
    have HR := hide (show stP LL l r = true from by unfold stP; rw [← HX.out, ← HY.out, HX0.out, hy0]; rfl)
    rw [hyb]
    clear hy0 hyb
    go_wp2
    go_ret
    exact ⟨by rw [HR.out]; rfl, Q3.out⟩
  have hyb : (y == 0) = false := by simpa using hy0
  have HY0 := hide hy0
  rw [hyb]
  clear hy0 hyb
  have cS := (K3.out.cell 0).trans (show _ = some (.int .i64 (l : Int)) from rfl)
  by_cases hl0 : l = 0
  · have HL0 := hide hl0
    have hlb : ((l : Int) == 0) = true := by simp [hl0]
    obtain ⟨q, hq⟩ : ∃ q, q = decide (partW (LL 1) r = partW (LL 0) r) := ⟨_, rfl⟩
    have HQ := hide hq
    have HR := hide (show stP LL l r = !q from by
      rw [hq]
      unfold stP
      rw [← HX.out, ← HY.out, HX0.out, decide_eq_false HY0.out, if_pos hl0]
      simp)
    obtain ⟨a1, c1, _, e1, hr1⟩ := F3.out.rd 1 (by omega)
    obtain ⟨a0, c0, _, e0, hr0⟩ := F3.out.rd 0 (by omega)
    have hN1 := (HH.out.2.2.1 hl0).1
    have hN0 := (HH.out.2.2.1 hl0).2
    have hM := HH.out.2.2.2
    obtain ⟨n1, hn1⟩ : ∃ n, n = (LL 1).length := ⟨_, rfl⟩
    obtain ⟨n0, hn0⟩ : ∃ n, n = (LL 0).length := ⟨_, rfl⟩
    have HN := hide (And.intro hn1 hn0)
    rw [← hn1] at e1 hr1 hN1 hM
    rw [← hn0] at e0 hr0 hN0 hM
    have R1 := hide hr1
    have R0 := hide hr0
    have HC := hide (show ∀ w', Blk w' b C 113 → w'.cell? ⟨b, 1, none⟩ = some (.slice a1 n1 c1) ∧ w'.cell? ⟨b, 0, none⟩ = some (.slice a0 n0 c0) from fun w' hw => ⟨(hw.cell 1).trans e1, (hw.cell 0).trans e0⟩)
    clear hq hl0 e1 e0 hr1 hr0 hn1 hn0
    go_upto_region 6 with fail
    refine wp_region_noPanic ?_
    refine wp_region_held_drew (S := fun w' => Blk w' w.heap.size #[.int .i64 (l : Int), .int .i64 (r : Int)] 123 ∧ Blk w' b C 113) (by kernel_rfl) ⟨K3.out, F3.out.box⟩ (fun hH => ?_)
    refine wpAnyH_take (i := 0) (oi := _) (v := .pointer (some ⟨b, 0, none⟩)) rfl (by kernel_rfl) (by kernel_rfl) (by kernel_rfl) (fun _ _ _ h => h) (Or.inl ⟨by rfl, fun w' hw' => by go_simp⟩) hH ?_
    try simp only [Act.put, getElem_toArray, getElem_cons_zero, getElem_cons_succ, setIfInBounds_toArray, set_cons_zero, set_cons_succ]
    refine wpAnyH_take (i := 1) (oi := _) (v := .pointer (some ⟨b, 0, none⟩)) rfl (by kernel_rfl) (by kernel_rfl) (by kernel_rfl) (fun _ _ _ h => h) (Or.inl ⟨by rfl, fun w' hw' => by go_simp⟩) hH ?_
    try simp only [Act.put, getElem_toArray, getElem_cons_zero, getElem_cons_succ, setIfInBounds_toArray, set_cons_zero, set_cons_succ]
    refine wpAnyH_take (i := 2) (oi := _) (v := .pointer (some ⟨b, 1, none⟩)) rfl (by kernel_rfl) (by kernel_rfl) (by kernel_rfl) (fun _ _ _ h => h) (Or.inl ⟨by rfl, fun w' hw' => by go_simp⟩) hH ?_
    try simp only [Act.put, getElem_toArray, getElem_cons_zero, getElem_cons_succ, setIfInBounds_toArray, set_cons_zero, set_cons_succ]
    refine wpAnyH_take (i := 3) (oi := _) (v := .slice a1 n1 c1) rfl (by kernel_rfl) (by kernel_rfl) (by kernel_rfl) (fun _ _ _ h => h) (Or.inl ⟨by rfl, fun w' hw' => by have hc := (HC.out w' hw'.2).1; clear hw'; go_simp⟩) hH ?_
    try simp only [Act.put, getElem_toArray, getElem_cons_zero, getElem_cons_succ, setIfInBounds_toArray, set_cons_zero, set_cons_succ]
    refine wpAnyH_take (i := 4) (oi := _) (v := .pointer (some ⟨w.heap.size, 1, none⟩)) rfl (by kernel_rfl) (by kernel_rfl) (by kernel_rfl) (fun _ _ _ h => h) (Or.inl ⟨by rfl, fun w' hw' => by go_simp⟩) hH ?_
    try simp only [Act.put, getElem_toArray, getElem_cons_zero, getElem_cons_succ, setIfInBounds_toArray, set_cons_zero, set_cons_succ]
    refine wpAnyH_take (i := 5) (oi := _) (v := .int .i64 (r : Int)) rfl (by kernel_rfl) (by kernel_rfl) (by kernel_rfl) (fun _ _ _ h => h) (Or.inl ⟨by rfl, fun w' hw' => by have hc := (Blk.cell hw'.1 1).trans (show _ = some (.int .i64 (r : Int)) from rfl); clear hw'; go_simp⟩) hH ?_
    try simp only [Act.put, getElem_toArray, getElem_cons_zero, getElem_cons_succ, setIfInBounds_toArray, set_cons_zero, set_cons_succ]
    refine wpAnyH_take (i := 7) (oi := _) (v := .pointer (some ⟨b, 0, none⟩)) rfl (by kernel_rfl) (by kernel_rfl) (by kernel_rfl) (fun _ _ _ h => h) (Or.inl ⟨by rfl, fun w' hw' => by go_simp⟩) hH ?_
    try simp only [Act.put, getElem_toArray, getElem_cons_zero, getElem_cons_succ, setIfInBounds_toArray, set_cons_zero, set_cons_succ]
    refine wpAnyH_take (i := 8) (oi := _) (v := .pointer (some ⟨b, 0, none⟩)) rfl (by kernel_rfl) (by kernel_rfl) (by kernel_rfl) (fun _ _ _ h => h) (Or.inl ⟨by rfl, fun w' hw' => by go_simp⟩) hH ?_
    try simp only [Act.put, getElem_toArray, getElem_cons_zero, getElem_cons_succ, setIfInBounds_toArray, set_cons_zero, set_cons_succ]
    refine wpAnyH_take (i := 9) (oi := _) (v := .pointer (some ⟨b, 0, none⟩)) rfl (by kernel_rfl) (by kernel_rfl) (by kernel_rfl) (fun _ _ _ h => h) (Or.inl ⟨by rfl, fun w' hw' => by go_simp⟩) hH ?_
    try simp only [Act.put, getElem_toArray, getElem_cons_zero, getElem_cons_succ, setIfInBounds_toArray, set_cons_zero, set_cons_succ]
    refine wpAnyH_take (i := 10) (oi := _) (v := .slice a0 n0 c0) rfl (by kernel_rfl) (by kernel_rfl) (by kernel_rfl) (fun _ _ _ h => h) (Or.inl ⟨by rfl, fun w' hw' => by have hc := (HC.out w' hw'.2).2; clear hw'; go_simp⟩) hH ?_
    try simp only [Act.put, getElem_toArray, getElem_cons_zero, getElem_cons_succ, setIfInBounds_toArray, set_cons_zero, set_cons_succ]
    refine wpAnyH_take (i := 11) (oi := _) (v := .pointer (some ⟨w.heap.size, 1, none⟩)) rfl (by kernel_rfl) (by kernel_rfl) (by kernel_rfl) (fun _ _ _ h => h) (Or.inl ⟨by rfl, fun w' hw' => by go_simp⟩) hH ?_
    try simp only [Act.put, getElem_toArray, getElem_cons_zero, getElem_cons_succ, setIfInBounds_toArray, set_cons_zero, set_cons_succ]
    refine wpAnyH_take (i := 12) (oi := _) (v := .int .i64 (r : Int)) rfl (by kernel_rfl) (by kernel_rfl) (by kernel_rfl) (fun _ _ _ h => h) (Or.inl ⟨by rfl, fun w' hw' => by have hc := (Blk.cell hw'.1 1).trans (show _ = some (.int .i64 (r : Int)) from rfl); clear hw'; go_simp⟩) hH ?_
    try simp only [Act.put, getElem_toArray, getElem_cons_zero, getElem_cons_succ, setIfInBounds_toArray, set_cons_zero, set_cons_succ]
    refine wpAnyH_ready (rs := [6]) (by kernel_rfl) (by simp) ?_
    refine AllReadyH.cons (o := _) rfl ?_ AllReadyH.nil
    intro K hK
    go_simp
    refine (partOf_any a1 n1 c1 r (LL 1) _ (R1.out.below (Below.refl _ _).drew) HN.out.1 hN1 hM.2).mono ?_
    rintro e w4 ⟨rfl, b4⟩
    obtain ⟨A1, hA1⟩ : ∃ A, A = ((partW (LL 1) r).map (Value.int .i64)).toArray := ⟨_, rfl⟩
    rw [← hA1]
    have HA1 := hide hA1
    have B4 := hide (show Below w3.heap.size w3 w4 from ((Below.refl _ _).drew).trans b4)
    have S4 := hide (And.intro (K3.out.below B4.out K3.out.lt) (F3.out.box.below B4.out F3.out.box.lt))
    refine hK.out _ _ S4.out (fun hH => ?_)
    clear hK K b4 hA1
    try simp only [Act.put, getElem_toArray, getElem_cons_zero, getElem_cons_succ, setIfInBounds_toArray, set_cons_zero, set_cons_succ]
    refine wpAnyH_ready (rs := [13]) (by kernel_rfl) (by simp) ?_
    refine AllReadyH.cons (o := _) rfl ?_ AllReadyH.nil
    intro K hK
    go_simp
    refine (partOf_any a0 n0 c0 r (LL 0) _ (R0.out.below B4.out) HN.out.2 hN0 hM.1).mono ?_
    rintro e w5 ⟨rfl, b5⟩
    obtain ⟨A0, hA0⟩ : ∃ A, A = ((partW (LL 0) r).map (Value.int .i64)).toArray := ⟨_, rfl⟩
    rw [← hA0]
    have HA0 := hide hA0
    have B5 := hide (B4.out.trans (b5.mono B4.out.size))
    have S5 := hide (And.intro (K3.out.below B5.out K3.out.lt) (F3.out.box.below B5.out F3.out.box.lt))
    refine hK.out _ _ S5.out (fun hH => ?_)
    clear hK K b5 hA0 S4
    try simp only [Act.put, getElem_toArray, getElem_cons_zero, getElem_cons_succ, setIfInBounds_toArray, set_cons_zero, set_cons_succ]
    refine wpAnyH_take (i := 14) (oi := _) (v := .bool (!q)) rfl (by kernel_rfl) (by kernel_rfl) (by kernel_rfl) (fun _ _ _ h => h) (yieldsIf_neqA (by rfl) 127 127 _ _ rfl A1 A0 rfl rfl guardA_W _ (fun w => by rw [HA1.out, HA0.out, HQ.out]; exact eqArr_W w _ _ (partW_len _ _) (partW_len _ _))) hH ?_
    try simp only [Act.put, getElem_toArray, getElem_cons_zero, getElem_cons_succ, setIfInBounds_toArray, set_cons_zero, set_cons_succ]
    refine wpAnyH_ready (rs := [15]) (by kernel_rfl) (by simp) ?_
    refine AllReadyH.cons (o := _) rfl ?_ AllReadyH.nil
    intro K hK
    go_simp
    refine hK.out _ _ S5.out (fun hH => ?_)
    clear hK K
    try simp only [Act.put, getElem_toArray, getElem_cons_zero, getElem_cons_succ, setIfInBounds_toArray, set_cons_zero, set_cons_succ]
    refine wpAnyH_done (by kernel_rfl) (NoPanic.normal ?_) _
    clear hH
    rw [← HR.out]
    have Q5 := hide (Q3.out.trans (B5.out.mono Q3.out.size))
    clear B5 S5 B4
    go_wp2
    go_ret
    exact ⟨rfl, Q5.out⟩
  · have HL1 := hide (show l = 1 from by have := HH.out.1; omega)
    have hlb : ((l : Int) == 0) = false := by simpa using hl0
    obtain ⟨q, hq⟩ : ∃ q, q = decide (wordsN (fun l => LL (5 + l)) 0 r = List.replicate 128 0) := ⟨_, rfl⟩
    have HQ := hide hq
    have HR := hide (show stP LL l r = !q from by
      rw [hq]
      unfold stP
      rw [← HX.out, ← HY.out, HX0.out, decide_eq_false HY0.out, if_neg hl0]
      simp)
    obtain ⟨Z, hZ, hBd⟩ := buildBw
    have HZ := hide hZ
    clear hq hl0 hZ
    go_upto_region 7 with fail
    refine wp_region_noPanic ?_
    refine wp_region_held_drew (S := fun w' => Blk w' w.heap.size #[.int .i64 (l : Int), .int .i64 (r : Int)] 123) (by kernel_rfl) (show Blk w3.drew w.heap.size #[.int .i64 (l : Int), .int .i64 (r : Int)] 123 from K3.out) (fun hH => ?_)
    refine wpAnyH_take (i := 0) (oi := _) (v := .pointer (some ⟨b, 0, none⟩)) rfl (by kernel_rfl) (by kernel_rfl) (by kernel_rfl) (fun _ _ _ h => h) (Or.inl ⟨by rfl, fun w' hw' => by go_simp⟩) hH ?_
    try simp only [Act.put, getElem_toArray, getElem_cons_zero, getElem_cons_succ, setIfInBounds_toArray, set_cons_zero, set_cons_succ]
    refine wpAnyH_take (i := 1) (oi := _) (v := .pointer (some ⟨b, 0, none⟩)) rfl (by kernel_rfl) (by kernel_rfl) (by kernel_rfl) (fun _ _ _ h => h) (Or.inl ⟨by rfl, fun w' hw' => by go_simp⟩) hH ?_
    try simp only [Act.put, getElem_toArray, getElem_cons_zero, getElem_cons_succ, setIfInBounds_toArray, set_cons_zero, set_cons_succ]
    refine wpAnyH_take (i := 2) (oi := _) (v := .pointer (some ⟨b, 5, none⟩)) rfl (by kernel_rfl) (by kernel_rfl) (by kernel_rfl) (fun _ _ _ h => h) (Or.inl ⟨by rfl, fun w' hw' => by go_simp⟩) hH ?_
    try simp only [Act.put, getElem_toArray, getElem_cons_zero, getElem_cons_succ, setIfInBounds_toArray, set_cons_zero, set_cons_succ]
    refine wpAnyH_take (i := 3) (oi := _) (v := .agg #[.int .i64 (l : Int), .int .i64 (r : Int)]) rfl (by kernel_rfl) (by kernel_rfl) (by kernel_rfl) (fun _ _ _ h => h) (yieldsIf_load_mid (by rfl) 123 _ rfl w.heap.size 0 rfl [.int .i64 (l : Int), .int .i64 (r : Int)] _ (fun w' h => rangeSp h) Tryz.underlying123 rfl infoSp) hH ?_
    try simp only [Act.put, getElem_toArray, getElem_cons_zero, getElem_cons_succ, setIfInBounds_toArray, set_cons_zero, set_cons_succ]
    refine wpAnyH_take (i := 5) (oi := _) (v := .agg Z) rfl (by kernel_rfl) (by kernel_rfl) (by kernel_rfl) (fun _ _ _ h => h) (Or.inl ⟨by rfl, fun w' hw' => hBd _ _ _ rfl⟩) hH ?_
    try simp only [Act.put, getElem_toArray, getElem_cons_zero, getElem_cons_succ, setIfInBounds_toArray, set_cons_zero, set_cons_succ]
    refine wpAnyH_ready (rs := [4]) (by kernel_rfl) (by simp) ?_
    refine AllReadyH.cons (o := _) rfl ?_ AllReadyH.nil
    intro K hK
    go_simp
    have hsp : (Value.agg #[.int .i64 (l : Int), .int .i64 (r : Int)]) = spotV (0 + 1) r := by rw [HL1.out]
    rw [hsp]
    refine (belowN_any b 5 0 r C 113 _ _ base _ (F3.out.giv.below (Below.refl _ _).drew) (by omega) HH.out.2.1).mono ?_
    rintro e w4 ⟨rfl, b4⟩
    obtain ⟨A1, hA1⟩ : ∃ A, A = ((wordsN (fun l => LL (5 + l)) 0 r).map (Value.int .i64)).toArray := ⟨_, rfl⟩
    rw [← hA1]
    have HA1 := hide hA1
    have B4 := hide (show Below w3.heap.size w3 w4 from ((Below.refl _ _).drew).trans b4)
    have S4 := hide (K3.out.below B4.out K3.out.lt)
    refine hK.out _ _ S4.out (fun hH => ?_)
    clear hK K b4 hA1 hsp
    try simp only [Act.put, getElem_toArray, getElem_cons_zero, getElem_cons_succ, setIfInBounds_toArray, set_cons_zero, set_cons_succ]
    refine wpAnyH_take (i := 6) (oi := _) (v := .bool (!q)) rfl (by kernel_rfl) (by kernel_rfl) (by kernel_rfl) (fun _ _ _ h => h) (yieldsIf_neqA (by rfl) 127 127 _ _ rfl A1 Z rfl rfl guardA_W _ (fun w => by rw [HA1.out, HZ.out, HQ.out]; exact eqArr_W w _ _ (by simp [wordsN]) (by simp))) hH ?_
    try simp only [Act.put, getElem_toArray, getElem_cons_zero, getElem_cons_succ, setIfInBounds_toArray, set_cons_zero, set_cons_succ]
    refine wpAnyH_ready (rs := [7]) (by kernel_rfl) (by simp) ?_
    refine AllReadyH.cons (o := _) rfl ?_ AllReadyH.nil
    intro K hK
    go_simp
    refine hK.out _ _ S4.out (fun hH => ?_)
    clear hK K
    try simp only [Act.put, getElem_toArray, getElem_cons_zero, getElem_cons_succ, setIfInBounds_toArray, set_cons_zero, set_cons_succ]
    refine wpAnyH_done (by kernel_rfl) (NoPanic.normal ?_) _
    clear hH
    rw [← HR.out]
    have Q5 := hide (Q3.out.trans (B4.out.mono Q3.out.size))
    clear B4 S4
    go_wp2
    go_ret
    exact ⟨rfl, Q5.out⟩
end Go.Proofs.YtlimollpocagiaaGreatDoor

namespace Go.Proofs.YtlimollpocagiaaGreatDoor
open List (getElem_toArray getElem_cons_zero getElem_cons_succ setIfInBounds_toArray set_cons_zero set_cons_succ)
set_option linter.unusedVariables false
set_option linter.unusedSimpArgs false
open Go.RowKit

/-- A Put as an element. -/
def neP (p : Int × List Int) : NE := ([.int .i64 p.1], p.2)
theorem neP_pre (P : List (Int × List Int)) : ∀ l ∈ P.map neP, l.1.length = 1 := by
  intro l hl
  rw [List.mem_map] at hl
  obtain ⟨p, _, rfl⟩ := hl
  rfl
theorem infoP2 : (Tryz.prog.info? 44).map (·.size) = some 2 := by kernel_rfl
end Go.Proofs.YtlimollpocagiaaGreatDoor

namespace Go.Proofs.YtlimollpocagiaaGreatDoor
open List (getElem_toArray getElem_cons_zero getElem_cons_succ setIfInBounds_toArray set_cons_zero set_cons_succ)
set_option linter.unusedVariables false
set_option linter.unusedSimpArgs false
open Go.RowKit

theorem OwnN.zeros {w : World} {base n : Nat} {v : Value} (h : w.ownsRow base 44 2 v n (cellsN (List.replicate n (.slice none 0 0)) ((List.replicate n ((0 : Int), ([] : List Int))).map neP))) : OwnN w base 44 1 v ((List.replicate n ((0 : Int), ([] : List Int))).map neP) (List.replicate n (.slice none 0 0)) := by
  refine ⟨by simp, neP_pre _, by simpa using h, fun i u l hu hl => ?_, fun i j u u' b hu _ hb _ => ?_⟩
  · rw [List.getElem?_replicate] at hu
    split at hu
    · cases hu
      rw [List.getElem?_map, List.getElem?_replicate] at hl
      split at hl
      · cases hl
        exact ⟨rfl, .inl ⟨rfl, rfl⟩⟩
      · contradiction
    · cases hu
  · rw [List.getElem?_replicate] at hu
    split at hu
    · cases hu
      cases hb
    · cases hu

end Go.Proofs.YtlimollpocagiaaGreatDoor
