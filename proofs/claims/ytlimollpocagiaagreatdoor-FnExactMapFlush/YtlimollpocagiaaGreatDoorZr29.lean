/- The model's give. -/
import Derived.Test.YtlimollpocagiaaGreatDoorZr26
import Derived.Test.YtlimollpocagiaaGreatDoorZr27
import Derived.Test.YtlimollpocagiaaGreatDoorZr28
namespace Go.Proofs.YtlimollpocagiaaGreatDoor
open List (getElem_toArray getElem_cons_zero getElem_cons_succ setIfInBounds_toArray set_cons_zero set_cons_succ)
set_option linter.unusedVariables false
set_option linter.unusedSimpArgs false
open Go.RowKit

theorem find_range (p : Nat → Bool) (f : Nat → Nat) (N i : Nat) (hi : i < N) (hn : ∀ j, j < i → p (f j) = false) (hy : p (f i) = true) : ((List.range N).map f).find? p = some (f i) := by
  obtain ⟨r, rfl⟩ : ∃ r, N = i + (r + 1) := ⟨N - i - 1, by omega⟩
  have h0 : ((List.range i).map f).find? p = none := by
    rw [List.find?_eq_none]
    intro x hx
    obtain ⟨j, hj, rfl⟩ := List.mem_map.1 hx
    rw [hn j (List.mem_range.1 hj)]
    decide
  rw [List.range_add, List.map_append, List.find?_append, h0, List.range_succ_eq_map]
  simp [hy]
theorem pick_at {ws bf : List Int} {c i : Nat} (hi : i < ws.length - 2) (hn : ∀ j, j < i → ¬ (ws.getD (ordAt ws.length c j) 0 = 0 ∧ bf.getD (ordAt ws.length c j) 0 = 0)) (hy : ws.getD (ordAt ws.length c i) 0 = 0 ∧ bf.getD (ordAt ws.length c i) 0 = 0) : pickB ws bf c = some (ordAt ws.length c i) := by
  unfold pickB
  refine find_range _ _ _ _ hi (fun j hj => ?_) ?_
  · have := hn j hj
    simp only [Bool.and_eq_false_iff, decide_eq_false_iff_not]
    by_cases h0 : ws.getD (ordAt ws.length c j) 0 = 0
    · exact .inr fun h1 => this ⟨h0, h1⟩
    · exact .inl h0
  · simp only [Bool.and_eq_true, decide_eq_true_eq]
    exact hy
theorem pick_no {ws bf : List Int} {c : Nat} (hn : ∀ j, j < ws.length - 2 → ¬ (ws.getD (ordAt ws.length c j) 0 = 0 ∧ bf.getD (ordAt ws.length c j) 0 = 0)) : pickB ws bf c = none := by
  unfold pickB
  rw [List.find?_eq_none]
  intro x hx
  obtain ⟨j, hj, rfl⟩ := List.mem_map.1 hx
  have := hn j (List.mem_range.1 hj)
  simpa using this
theorem Fm.slot {W : World} {base b : Nat} {C : Array Value} {R : Nat → Value} {LL : Nat → List Int} {cu sg : Int} {fu : Bool} (h : Fm W base b C R LL cu sg fu) {j n c : Nat} {a : Option Addr} (hj : j < 5) (hR : R j = .slice a n c) : W.cell? ⟨b, posM j, none⟩ = some (.slice a n c) :=
  (h.box.cell _).trans (by rw [← hR]; exact h.at_ j hj)
theorem Fm.val {W : World} {base b : Nat} {C : Array Value} {R : Nat → Value} {LL : Nat → List Int} {cu sg : Int} {fu : Bool} (h : Fm W base b C R LL cu sg fu) {j g k : Nat} (hj : j < 5) (hg : (R j).ownBlock = some g) (hk : k < (LL j).length) : W.cell? ⟨g, k, none⟩ = some (.int .i64 ((LL j).getD k 0)) ∧ W.frozen? ⟨g, k, none⟩ = false := by
  obtain ⟨g', c', _, e, _, h4⟩ := h.at hj (by omega)
  rw [hg] at e
  injection e with e
  subst e
  exact h4 k hk
theorem with_even (z : Int) (h : 0 ≤ z ∧ z < 4294967296) : ∃ y : Nat, z = (y : Int) ∧ y ≤ 4294967295 ∧ ((withN y 0 false : Nat) : Int) = even z := by
  refine ⟨z.toNat, by omega, by omega, ?_⟩
  unfold withN clrN bitN even
  simp only [Bool.false_eq_true, if_false, Nat.pow_zero, Nat.div_one, Nat.mul_one]
  omega
/-- What a place given leaves of the lists. -/
def gvL (LL : Nat → List Int) (k q : Nat) (was : Int) : Nat → List Int := upd (upd (upd LL 0 (clrB ((LL 0).set q 1) was)) 2 ((LL 2).set k (q : Int))) 3 (LL 3 ++ [(k : Int)])
def GvM (base b n k : Nat) (R : Nat → Value) (LL : Nat → List Int) (cN : Nat) (sg was : Int) (w w' : World) (e : Ending) : Prop :=
  e = .returned (.tuple #[]) ∧ match pickB (LL 0) (LL 1) cN with
  | none => ∃ C', Fm w' base b C' R LL (cN : Int) sg true ∧ KpM w w' b R R
  | some q => ∃ C' R', Fm w' base b C' R' (gvL LL k q was) (behI n q) sg false ∧ KpM w w' b R R'
set_option maxRecDepth 100000 in
set_option maxHeartbeats 4000000 in
theorem giveM_any (base b n k cN : Nat) (C : Array Value) (R : Nat → Value) (LL : Nat → List Int) (sg was : Int) (w : World) (h : Fm w base b C R LL (cN : Int) sg false) (h0 : (LL 0).length = n) (h1 : (LL 1).length = n) (hk : k < (LL 2).length) (h2 : (LL 2).length ≤ 100) (h3 : (LL 3).length ≤ 1000) (hcu : 2 ≤ cN ∧ cN < n) (hn : n ≤ 2048) (hw0 : 0 ≤ was ∧ was < (n : Int)) (hwr : ∀ z ∈ LL 0, 0 ≤ z ∧ z < 4294967296) (hbs : base ≤ w.heap.size) :
    Calls Tryz.prog 83 #[.pointer (some ⟨b, 0, none⟩), .int .i64 (k : Int), .int .i64 was] w fun e w' => GvM base b n k R LL cN sg was w w' e := by
  obtain ⟨i0, hi, hz0, hz1, hz2⟩ := info_parts infoI64
  obtain ⟨g0, c0, R0, o0, _, _⟩ := h.at (j := 0) (by omega) (by omega)
  obtain ⟨g1, c1, R1, o1, _, _⟩ := h.at (j := 1) (by omega) (by omega)
  obtain ⟨g2, c2, R2, o2, _, _⟩ := h.at (j := 2) (by omega) (by omega)
  obtain ⟨g3, c3, R3⟩ := own_shapeT (h.row 3 (by omega))
  rw [h0] at R0
  rw [h1] at R1
  obtain ⟨n2, hn2⟩ : ∃ n2, n2 = (LL 2).length := ⟨_, rfl⟩
  obtain ⟨n3, hn3⟩ : ∃ n3, n3 = (LL 3).length := ⟨_, rfl⟩
  rw [← hn2] at R2 hk h2
  rw [← hn3] at R3 h3
  have HR := hide (And.intro R0 (And.intro R1 (And.intro R2 (And.intro R3 (And.intro o0 (And.intro o1 o2))))))
  have HL := hide (And.intro h0 (And.intro h1 (And.intro hn2 hn3)))
  have HWR := hide hwr
  have HF := hide h
  have HC := hide (show ∀ w', Blk w' b C 77 → w'.cell? ⟨b, 0, none⟩ = some (.slice (some ⟨g0, 0, none⟩) n c0) ∧ w'.cell? ⟨b, 10, none⟩ = some (.int .i64 (cN : Int)) from fun w' hw => ⟨(hw.cell 0).trans (by rw [← R0]; exact h.at_ 0 (by omega)), (hw.cell 10).trans h.cur⟩)
  clear R0 R1 R2 R3 o0 o1 o2 h0 h1 hn2 hn3 hwr h
  go_enter Tryz.func83, Tryz.ntmps83
  go_upto_region 0 with fail
  refine wp_region_noPanic ?_
  refine wp_region_held_drew (S := fun w' => Blk w' b C 77) (by kernel_rfl) (show Blk w.drew b C 77 from HF.out.box) (fun hH => ?_)
  refine wpAnyH_take (i := 0) (oi := _) (v := .pointer (some ⟨b, 0, none⟩)) rfl (by kernel_rfl) (by kernel_rfl) (by kernel_rfl) (fun _ _ _ h => h) (Or.inl ⟨by rfl, fun w' hw' => by go_simp⟩) hH ?_
  try simp only [Act.put, getElem_toArray, getElem_cons_zero, getElem_cons_succ, setIfInBounds_toArray, set_cons_zero, set_cons_succ]
  refine wpAnyH_take (i := 1) (oi := _) (v := .pointer (some ⟨b, 0, none⟩)) rfl (by kernel_rfl) (by kernel_rfl) (by kernel_rfl) (fun _ _ _ h => h) (Or.inl ⟨by rfl, fun w' hw' => by go_simp⟩) hH ?_
  try simp only [Act.put, getElem_toArray, getElem_cons_zero, getElem_cons_succ, setIfInBounds_toArray, set_cons_zero, set_cons_succ]
  refine wpAnyH_take (i := 2) (oi := _) (v := .pointer (some ⟨b, 0, none⟩)) rfl (by kernel_rfl) (by kernel_rfl) (by kernel_rfl) (fun _ _ _ h => h) (Or.inl ⟨by rfl, fun w' hw' => by go_simp⟩) hH ?_
  try simp only [Act.put, getElem_toArray, getElem_cons_zero, getElem_cons_succ, setIfInBounds_toArray, set_cons_zero, set_cons_succ]
  refine wpAnyH_take (i := 3) (oi := _) (v := .slice (some ⟨g0, 0, none⟩) n c0) rfl (by kernel_rfl) (by kernel_rfl) (by kernel_rfl) (fun _ _ _ h => h) (Or.inl ⟨by rfl, fun w' hw' => by have hc := (HC.out w' hw').1; clear hw'; go_simp⟩) hH ?_
  try simp only [Act.put, getElem_toArray, getElem_cons_zero, getElem_cons_succ, setIfInBounds_toArray, set_cons_zero, set_cons_succ]
  refine wpAnyH_take (i := 4) (oi := _) (v := .int .i64 (n : Int)) rfl (by kernel_rfl) (by kernel_rfl) (by kernel_rfl) (fun _ _ _ h => h) (Or.inl ⟨by rfl, fun w' hw' => by go_simp⟩) hH ?_
  try simp only [Act.put, getElem_toArray, getElem_cons_zero, getElem_cons_succ, setIfInBounds_toArray, set_cons_zero, set_cons_succ]
  refine wpAnyH_take (i := 5) (oi := _) (v := .pointer (some ⟨b, 0, none⟩)) rfl (by kernel_rfl) (by kernel_rfl) (by kernel_rfl) (fun _ _ _ h => h) (Or.inl ⟨by rfl, fun w' hw' => by go_simp⟩) hH ?_
  try simp only [Act.put, getElem_toArray, getElem_cons_zero, getElem_cons_succ, setIfInBounds_toArray, set_cons_zero, set_cons_succ]
  refine wpAnyH_take (i := 6) (oi := _) (v := .pointer (some ⟨b, 0, none⟩)) rfl (by kernel_rfl) (by kernel_rfl) (by kernel_rfl) (fun _ _ _ h => h) (Or.inl ⟨by rfl, fun w' hw' => by go_simp⟩) hH ?_
  try simp only [Act.put, getElem_toArray, getElem_cons_zero, getElem_cons_succ, setIfInBounds_toArray, set_cons_zero, set_cons_succ]
  refine wpAnyH_take (i := 7) (oi := _) (v := .pointer (some ⟨b, 10, none⟩)) rfl (by kernel_rfl) (by kernel_rfl) (by kernel_rfl) (fun _ _ _ h => h) (Or.inl ⟨by rfl, fun w' hw' => by go_simp⟩) hH ?_
  try simp only [Act.put, getElem_toArray, getElem_cons_zero, getElem_cons_succ, setIfInBounds_toArray, set_cons_zero, set_cons_succ]
  refine wpAnyH_take (i := 8) (oi := _) (v := .int .i64 (cN : Int)) rfl (by kernel_rfl) (by kernel_rfl) (by kernel_rfl) (fun _ _ _ h => h) (Or.inl ⟨by rfl, fun w' hw' => by have hc := (HC.out w' hw').2; clear hw'; go_simp⟩) hH ?_
  try simp only [Act.put, getElem_toArray, getElem_cons_zero, getElem_cons_succ, setIfInBounds_toArray, set_cons_zero, set_cons_succ]
  refine wpAnyH_take (i := 11) (oi := _) (v := .int .i64 0) rfl (by kernel_rfl) (by kernel_rfl) (by kernel_rfl) (fun _ _ _ h => h) (Or.inl ⟨by rfl, fun w' hw' => by go_simp⟩) hH ?_
  try simp only [Act.put, getElem_toArray, getElem_cons_zero, getElem_cons_succ, setIfInBounds_toArray, set_cons_zero, set_cons_succ]
  refine wpAnyH_ready (rs := [9]) (by kernel_rfl) (by simp) ?_
  refine AllReadyH.cons (o := _) rfl ?_ AllReadyH.nil
  intro K hK
  go_simp
  refine (order_any n cN w.drew hcu.1 hcu.2 hn).mono ?_
  rintro e w1 ⟨ov, rfl, oo, bo⟩
  have B1 := hide (show Below w.heap.size w w1 from ((Below.refl _ _).drew).trans bo)
  obtain ⟨og, oc, rfl, hoc, ho⟩ := own_cellT oo (by omega)
  have HO := hide ho
  have F1 := hide (HF.out.below B1.out)
  have P1 := hide (KpM.of_below b R B1.out)
  refine hK.out _ _ F1.out.box (fun hH => ?_)
  clear hK K oo bo ho
  try simp only [Act.put, getElem_toArray, getElem_cons_zero, getElem_cons_succ, setIfInBounds_toArray, set_cons_zero, set_cons_succ]
  refine wpAnyH_take (i := 10) (oi := _) (v := .int .i64 ((n - 2 : Nat) : Int)) rfl (by kernel_rfl) (by kernel_rfl) (by kernel_rfl) (fun _ _ _ h => h) (Or.inl ⟨by rfl, fun w' hw' => by go_simp⟩) hH ?_
  try simp only [Act.put, getElem_toArray, getElem_cons_zero, getElem_cons_succ, setIfInBounds_toArray, set_cons_zero, set_cons_succ]
  refine wpAnyH_done (by kernel_rfl) (NoPanic.normal ?_) _
  clear hH HC
  have hbs1 : base ≤ w1.heap.size := Nat.le_trans hbs B1.out.size
  go_wp2
  go_loopw [7, 19] (fun u i wr => ∃ j : Nat, j ≤ n - 2 ∧ i = .int .i64 (j : Int) ∧ wr = w1 ∧ Hid (∀ x, x < j → ¬ ((LL 0).getD (ordAt n cN x) 0 = 0 ∧ (LL 1).getD (ordAt n cN x) 0 = 0))) (fun _ i _ => n - (intOf i).toNat)
  case atStart => exact ⟨0, Nat.zero_le _, rfl, rfl, hide (fun x hx => absurd hx (by omega))⟩
  case round =>
    obtain ⟨j, hj, rfl, hwr, HN⟩ := hrel
    obtain rfl := hwr.symm
    by_cases hlt : j < n - 2
    · obtain ⟨q, hq⟩ : ∃ q, q = ordAt n cN j := ⟨_, rfl⟩
      have hq2 := ord_in n cN j hcu.1 hcu.2 hlt
      have co := HO.out j hlt
      rw [ordTo_get _ _ _ _ hlt] at co
      rw [← hq] at hq2 co
      have HQ := hide hq
      clear hq
      obtain ⟨zw, hzw⟩ : ∃ z, z = (LL 0).getD q 0 := ⟨_, rfl⟩
      obtain ⟨zo, hzo⟩ : ∃ z, z = (LL 1).getD q 0 := ⟨_, rfl⟩
      have x0 := (F1.out.val (j := 0) (k := q) (by omega) HR.out.2.2.2.2.1 (by rw [HL.out.1]; exact hq2.2)).1
      have x1 := (F1.out.val (j := 1) (k := q) (by omega) HR.out.2.2.2.2.2.1 (by rw [HL.out.2.1]; exact hq2.2)).1
      have f0 := (F1.out.val (j := 0) (k := q) (by omega) HR.out.2.2.2.2.1 (by rw [HL.out.1]; exact hq2.2)).2
      have y0 : w1.cell? ⟨b, 0, none⟩ = some (.slice (some ⟨g0, 0, none⟩) n c0) := F1.out.slot (j := 0) (by omega) HR.out.1
      have y1 : w1.cell? ⟨b, 1, none⟩ = some (.slice (some ⟨g1, 0, none⟩) n c1) := F1.out.slot (j := 1) (by omega) HR.out.2.1
      rw [← hzw] at x0
      rw [← hzo] at x1
      have HZ := hide (And.intro hzw hzo)
      clear hzw hzo
      have hqI : (q : Int) < (n : Int) := by omega
      have hjI : (j : Int) < ((n - 2 : Nat) : Int) := by omega
      by_cases hz : zw = 0
      · have hzb : (zw == 0) = true := by simp [hz]
        by_cases hy : zo = 0
        · have hyb : (zo == 0) = true := by simp [hy]
          have HPk := hide (show pickB (LL 0) (LL 1) cN = some q from by
            rw [HQ.out, ← HL.out.1]
            refine pick_at (by rw [HL.out.1]; exact hlt) (fun x hx => by rw [HL.out.1]; exact HN.out x hx) ?_
            rw [HL.out.1, ← HQ.out, ← HZ.out.1, ← HZ.out.2]
            exact ⟨hz, hy⟩)
          clear hz hy
          go_upto_region 5 with fail
          obtain ⟨f2, k2⟩ := F1.out.set (j := 0) (p := q) (by omega) HR.out.2.2.2.2.1 1
          have F2 := hide f2
          have P2 := hide (P1.out.trans k2)
          clear f2 k2 x0 x1 f0 y0 y1 hzb hyb co
          generalize w1.setCell ⟨g0, q, none⟩ (.int .i64 1) = w2 at F2 P2 ⊢
          obtain ⟨L2, hL2⟩ : ∃ L, L = upd LL 0 ((LL 0).set q 1) := ⟨_, rfl⟩
          rw [← hL2] at F2
          have HL2 := hide hL2
          have hl2 : (L2 0).length = n := by rw [hL2, upd_same, List.length_set, HL.out.1]
          have HWs := hide (show ∀ z ∈ L2 0, 0 ≤ z ∧ z < 4294967296 from fun z hz => by
            rw [hL2, upd_same] at hz
            rcases List.mem_or_eq_of_mem_set hz with hz | rfl
            · exact HWR.out z hz
            · omega)
          clear hL2
          have y0 : w2.cell? ⟨b, 0, none⟩ = some (.slice (some ⟨g0, 0, none⟩) n c0) := F2.out.slot (j := 0) (by omega) HR.out.1
          have Hl2 := hide hl2
          clear hl2
          by_cases hwz : was = 0
          · have hwb : (was != 0) = false := by simp [hwz]
            have F3 := F2
            have P3 := P2
            have HCl := hide (show upd LL 0 (clrB ((LL 0).set q 1) was) = L2 from by unfold clrB; rw [if_pos hwz, HL2.out])
            clear F2 P2 hwz
            go_upto_region 7 with fail
            go_upto_region 8 with (go_at_call 107; refine (specBehind_any (q : Int) n _ (by omega) (by omega)).mono ?_; rintro e wq ⟨rfl, hwq⟩; rw [hwq]; clear hwq wq; have y10 := (F3.out.box.cell 10).trans F3.out.cur; have f10 := F3.out.box.frozen 10)
            have F4 := hide (F3.out.setCur (behI n (q : Int)))
            have P4 := hide (P3.out.trans (KpM.box F3.out 10 (.int .i64 (behI n (q : Int)))))
            clear y10 f10 y0
            generalize w2.setCell ⟨b, 10, none⟩ (.int .i64 (behI n (q : Int))) = w5 at F4 P4 ⊢
            generalize C.setIfInBounds 10 (.int .i64 (behI n (q : Int))) = C5 at F4
            have y11 : w5.cell? ⟨b, 11, none⟩ = some (.slice (some ⟨g2, 0, none⟩) n2 c2) := F4.out.slot (j := 2) (by omega) HR.out.2.2.1
            have hl5 : (L2 2).length = n2 := by rw [show L2 2 = LL 2 from by rw [HL2.out, upd_other _ _ _ _ (by omega)], HL.out.2.2.1]
            obtain ⟨x2, fx2⟩ := F4.out.val (j := 2) (k := k) (by omega) HR.out.2.2.2.2.2.2 (by rw [hl5]; exact hk)
            have hkI : (k : Int) < (n2 : Int) := by omega
            go_upto_region 9 with fail
            obtain ⟨f6, k6⟩ := F4.out.set (j := 2) (p := k) (by omega) HR.out.2.2.2.2.2.2 (q : Int)
            have F6 := hide f6
            have P6 := hide (P4.out.trans k6)
            clear f6 k6 y11 x2 fx2 F4 P4
            generalize w5.setCell ⟨g2, k, none⟩ (.int .i64 (q : Int)) = w6 at F6 P6 ⊢
            have y12 : w6.cell? ⟨b, 12, none⟩ = some (.slice g3 n3 c3) := F6.out.slot (j := 3) (by omega) HR.out.2.2.2.1
            have hl6 : (upd L2 2 ((L2 2).set k (q : Int))) 3 = LL 3 := by rw [upd_other _ _ _ _ (by omega), show L2 3 = LL 3 from by rw [HL2.out, upd_other _ _ _ _ (by omega)]]
            have hbs6 : base ≤ w6.heap.size := Nat.le_trans hbs P6.out.size
            have F7 := hide (F6.out.below ((Below.refl w6.heap.size w6).alloc (Nat.le_refl _) (.cells #[.int .i64 (k : Int)] 3)))
            have HO7 := hide (show (w6.alloc (.cells #[.int .i64 (k : Int)] 3)).ownsRow base 3 1 (.slice g3 n3 c3) n3 ((LL 3).map (Value.int .i64)) from by
              have h := F7.out.row 3 (by omega)
              rw [hl6, HR.out.2.2.2.1, ← HL.out.2.2.2] at h
              exact h)
            have P7 := hide (P6.out.trans (KpM.of_below b R ((Below.refl w6.heap.size w6).alloc (Nat.le_refl _) (.cells #[.int .i64 (k : Int)] 3))))
            have HL6 := hide hl6
            clear hl6 hl5
            go_wp2_with (first
              | (at_builtin; refine wpList_append_own_at _ rfl (.tmp 84) (.tmp 86) 29 rfl base 3 i0 (.int .i64 0) 1 8 Tryz.underlying29 hi hz0 hz1 hz2 rfl (by decide) (.slice g3 n3 c3) n3 _ rfl HO7.out ⟨w6.heap.size, 0, none⟩ 1 1 [.int .i64 (k : Int)] rfl rfl (cells_newI w6 (k : Int)) (by intro z hz; simp at hz; rcases hz with rfl; rfl) (by unfold maxLen; omega) (by omega) (by simp; omega) ?_
                 intro v8 w8 o8 g8 _ n8
                 obtain ⟨va, vc, rfl⟩ := own_shapeT o8
                 obtain ⟨f8, k8⟩ := F7.out.app (x := (k : Int)) (by rw [HL6.out, List.map_append, ← HL.out.2.2.2]; exact o8) (by rw [HR.out.2.2.2.1]; exact g8) (by rw [HR.out.2.2.2.1]; exact n8.imp id (fun e => ⟨_, e, Nat.le_refl _⟩))
                 have F8 := hide f8
                 have P8 := hide (P7.out.trans k8)
                 have hb8 : Blk w8 b C5 77 := (g8.block b F7.out.box.lt (fun e => F7.out.ne_box (j := 3) (by omega) (by rw [HR.out.2.2.2.1]; exact e.symm))).trans F7.out.box
                 have y12 : ∃ v, w8.cell? ⟨b, 12, none⟩ = some v := ⟨_, (hb8.cell 12).trans (F7.out.at_ 3 (by omega))⟩
                 obtain ⟨v12, y12⟩ := y12
                 have f12 := hb8.frozen 12
                 clear o8 g8 n8 f8 k8 hb8)
              | fail)
            refine bodyPost_ret (results_none rfl _ _ _) rfl ?_
            refine ⟨rfl, ?_⟩
            rw [HPk.out]
            refine ⟨C5.setIfInBounds 12 (.slice va (n3 + 1) vc), _, ?_, P8.out⟩
            have hf := F8.out
            rw [HL6.out] at hf
            unfold gvL
            rw [HCl.out, show LL 2 = L2 2 from by rw [HL2.out, upd_other _ _ _ _ (by omega)]]
            exact hf
          · have hwb : (was != 0) = true := by simpa using hwz
            obtain ⟨oN, hoN⟩ : ∃ x : Nat, was = (x : Int) := ⟨was.toNat, by omega⟩
            have hoN2 : oN < n := by omega
            have v2 := F2.out.val (j := 0) (k := oN) (by omega) HR.out.2.2.2.2.1 (by rw [Hl2.out]; exact hoN2)
            obtain ⟨z, hz⟩ : ∃ z, z = (L2 0).getD oN 0 := ⟨_, rfl⟩
            obtain ⟨y, hy1, hy2, hy3⟩ := with_even z (by rw [hz]; exact getD_in HWs.out oN)
            have HZ2 := hide (And.intro hz (And.intro hy1 hy3))
            have HV2 := hide (show ∀ w' : World, w'.heap[g0]? = w2.heap[g0]? → w'.cell? ⟨g0, oN, none⟩ = some (.int .i64 (y : Int)) ∧ w'.frozen? ⟨g0, oN, none⟩ = false from fun w' hw => ⟨(World.cell?_of_block (a := ⟨g0, oN, none⟩) hw).trans (by rw [← hy1, hz]; exact v2.1), by have := v2.2; unfold World.frozen? at this ⊢; rw [hw]; exact this⟩)
            have HCl := hide (show upd LL 0 (clrB ((LL 0).set q 1) was) = upd L2 0 ((L2 0).set oN (even z)) from by
              unfold clrB
              rw [if_neg hwz, hoN, Int.toNat_natCast, hz, HL2.out, upd_upd, upd_same])
            subst hoN
            clear hz hy1 hy3 v2 hwz
            go_upto_region 6 with fail
            refine wp_region_noPanic ?_
            refine wp_region_held_drew (S := fun w' => Blk w' b C 77) (by kernel_rfl) (show Blk w2.drew b C 77 from F2.out.box) (fun hH => ?_)
            have HC := hide (show ∀ w', Blk w' b C 77 → w'.cell? ⟨b, 0, none⟩ = some (.slice (some ⟨g0, 0, none⟩) n c0) from fun w' hw => (hw.cell 0).trans (by rw [← HR.out.1]; exact F2.out.at_ 0 (by omega)))
            clear y0
            refine wpAnyH_take (i := 0) (oi := _) (v := .pointer (some ⟨b, 0, none⟩)) rfl (by kernel_rfl) (by kernel_rfl) (by kernel_rfl) (fun _ _ _ h => h) (Or.inl ⟨by rfl, fun w' hw' => by go_simp⟩) hH ?_
            try simp only [Act.put, getElem_toArray, getElem_cons_zero, getElem_cons_succ, setIfInBounds_toArray, set_cons_zero, set_cons_succ]
            refine wpAnyH_take (i := 1) (oi := _) (v := .pointer (some ⟨b, 0, none⟩)) rfl (by kernel_rfl) (by kernel_rfl) (by kernel_rfl) (fun _ _ _ h => h) (Or.inl ⟨by rfl, fun w' hw' => by go_simp⟩) hH ?_
            try simp only [Act.put, getElem_toArray, getElem_cons_zero, getElem_cons_succ, setIfInBounds_toArray, set_cons_zero, set_cons_succ]
            refine wpAnyH_take (i := 2) (oi := _) (v := .pointer (some ⟨b, 0, none⟩)) rfl (by kernel_rfl) (by kernel_rfl) (by kernel_rfl) (fun _ _ _ h => h) (Or.inl ⟨by rfl, fun w' hw' => by go_simp⟩) hH ?_
            try simp only [Act.put, getElem_toArray, getElem_cons_zero, getElem_cons_succ, setIfInBounds_toArray, set_cons_zero, set_cons_succ]
            refine wpAnyH_take (i := 3) (oi := _) (v := .slice (some ⟨g0, 0, none⟩) n c0) rfl (by kernel_rfl) (by kernel_rfl) (by kernel_rfl) (fun _ _ _ h => h) (Or.inl ⟨by rfl, fun w' hw' => by have hc := HC.out w' hw'; clear hw'; go_simp⟩) hH ?_
            try simp only [Act.put, getElem_toArray, getElem_cons_zero, getElem_cons_succ, setIfInBounds_toArray, set_cons_zero, set_cons_succ]
            refine wpAnyH_take (i := 4) (oi := _) (v := .int .i64 (oN : Int)) rfl (by kernel_rfl) (by kernel_rfl) (by kernel_rfl) (fun _ _ _ h => h) (Or.inl ⟨by rfl, fun w' hw' => by go_simp⟩) hH ?_
            try simp only [Act.put, getElem_toArray, getElem_cons_zero, getElem_cons_succ, setIfInBounds_toArray, set_cons_zero, set_cons_succ]
            refine wpAnyH_take (i := 5) (oi := _) (v := .pointer (some ⟨b, 0, none⟩)) rfl (by kernel_rfl) (by kernel_rfl) (by kernel_rfl) (fun _ _ _ h => h) (Or.inl ⟨by rfl, fun w' hw' => by go_simp⟩) hH ?_
            try simp only [Act.put, getElem_toArray, getElem_cons_zero, getElem_cons_succ, setIfInBounds_toArray, set_cons_zero, set_cons_succ]
            refine wpAnyH_take (i := 6) (oi := _) (v := .pointer (some ⟨b, 0, none⟩)) rfl (by kernel_rfl) (by kernel_rfl) (by kernel_rfl) (fun _ _ _ h => h) (Or.inl ⟨by rfl, fun w' hw' => by go_simp⟩) hH ?_
            try simp only [Act.put, getElem_toArray, getElem_cons_zero, getElem_cons_succ, setIfInBounds_toArray, set_cons_zero, set_cons_succ]
            refine wpAnyH_take (i := 7) (oi := _) (v := .pointer (some ⟨b, 0, none⟩)) rfl (by kernel_rfl) (by kernel_rfl) (by kernel_rfl) (fun _ _ _ h => h) (Or.inl ⟨by rfl, fun w' hw' => by go_simp⟩) hH ?_
            try simp only [Act.put, getElem_toArray, getElem_cons_zero, getElem_cons_succ, setIfInBounds_toArray, set_cons_zero, set_cons_succ]
            refine wpAnyH_take (i := 8) (oi := _) (v := .slice (some ⟨g0, 0, none⟩) n c0) rfl (by kernel_rfl) (by kernel_rfl) (by kernel_rfl) (fun _ _ _ h => h) (Or.inl ⟨by rfl, fun w' hw' => by have hc := HC.out w' hw'; clear hw'; go_simp⟩) hH ?_
            try simp only [Act.put, getElem_toArray, getElem_cons_zero, getElem_cons_succ, setIfInBounds_toArray, set_cons_zero, set_cons_succ]
            refine wpAnyH_take (i := 9) (oi := _) (v := .int .i64 (oN : Int)) rfl (by kernel_rfl) (by kernel_rfl) (by kernel_rfl) (fun _ _ _ h => h) (Or.inl ⟨by rfl, fun w' hw' => by go_simp⟩) hH ?_
            try simp only [Act.put, getElem_toArray, getElem_cons_zero, getElem_cons_succ, setIfInBounds_toArray, set_cons_zero, set_cons_succ]
            refine wpAnyH_take (i := 10) (oi := _) (v := .pointer (some ⟨g0, oN, none⟩)) rfl (by kernel_rfl) (by kernel_rfl) (by kernel_rfl) (fun _ _ _ h => h) (Or.inl ⟨by rfl, fun w' hw' => by go_simp⟩) hH ?_
            try simp only [Act.put, getElem_toArray, getElem_cons_zero, getElem_cons_succ, setIfInBounds_toArray, set_cons_zero, set_cons_succ]
            refine wpAnyH_ready (rs := [11]) (by kernel_rfl) (by simp) ?_
            refine AllReadyH.cons (o := _) rfl ?_ AllReadyH.nil
            intro K hK
            have s1 := (HV2.out w2.drew rfl).1
            go_simp
            clear s1
            refine hK.out _ _ F2.out.box (fun hH => ?_)
            clear hK K
            try simp only [Act.put, getElem_toArray, getElem_cons_zero, getElem_cons_succ, setIfInBounds_toArray, set_cons_zero, set_cons_succ]
            refine wpAnyH_ready (rs := [12]) (by kernel_rfl) (by simp) ?_
            refine AllReadyH.cons (o := _) rfl ?_ AllReadyH.nil
            intro K hK
            go_simp
            refine (with_below y 0 false 0 w2.drew hy2 (by omega) rfl).mono ?_
            rintro e w3 ⟨rfl, b3⟩
            have B3 := hide (show Below w2.heap.size w2 w3 from ((Below.refl _ _).drew).trans b3)
            have hg0 : g0 < w2.heap.size := ((F2.out.row 0 (by omega)).lt g0 HR.out.2.2.2.2.1).2
            refine hK.out _ _ (F2.out.below B3.out).box (fun hH => ?_)
            rw [HZ2.out.2.2]
            have HV3 := hide (HV2.out w3 (B3.out.block g0 hg0))
            clear hK K b3
            try simp only [Act.put, getElem_toArray, getElem_cons_zero, getElem_cons_succ, setIfInBounds_toArray, set_cons_zero, set_cons_succ]
            refine wpAnyH_take (i := 13) (oi := _) (v := .pointer (some ⟨g0, oN, none⟩)) rfl (by kernel_rfl) (by kernel_rfl) (by kernel_rfl) (fun _ _ _ h => h) (Or.inl ⟨by rfl, fun w' hw' => by go_simp⟩) hH ?_
            try simp only [Act.put, getElem_toArray, getElem_cons_zero, getElem_cons_succ, setIfInBounds_toArray, set_cons_zero, set_cons_succ]
            refine wpAnyH_ready (rs := [14]) (by kernel_rfl) (by simp) ?_
            refine AllReadyH.cons (o := _) rfl ?_ AllReadyH.nil
            intro K hK
            have s1 := HV3.out.1
            have s2 := HV3.out.2
            go_simp
            clear s1 s2
            obtain ⟨f3, k3⟩ := (F2.out.below B3.out).set (j := 0) (p := oN) (by omega) HR.out.2.2.2.2.1 (even z)
            have F3 := hide f3
            have P3 := hide (P2.out.trans ((KpM.of_below b R B3.out).trans k3))
            refine hK.out _ _ F3.out.box (fun hH => ?_)
            clear hK K f3 k3
            try simp only [Act.put, getElem_toArray, getElem_cons_zero, getElem_cons_succ, setIfInBounds_toArray, set_cons_zero, set_cons_succ]
            refine wpAnyH_done (by kernel_rfl) (NoPanic.normal ?_) _
            clear hH F2 P2 HV2 HV3 HC
            generalize w3.setCell ⟨g0, oN, none⟩ (.int .i64 (even z)) = w4 at F3 P3 ⊢
            obtain ⟨L3, hL3⟩ : ∃ L, L = upd L2 0 ((L2 0).set oN (even z)) := ⟨_, rfl⟩
            rw [← hL3] at F3 HCl
            have Hl2 := hide (show (L3 0).length = n from by rw [hL3, upd_same, List.length_set, Hl2.out])
            have HL2 := hide (show ∀ i, i ≠ 0 → L3 i = LL i from fun i hi => by rw [hL3, upd_other _ _ _ _ hi, HL2.out, upd_other _ _ _ _ hi])
            clear hL3
            have y0 : w4.cell? ⟨b, 0, none⟩ = some (.slice (some ⟨g0, 0, none⟩) n c0) := F3.out.slot (j := 0) (by omega) HR.out.1
            go_upto_region 7 with fail
            go_upto_region 8 with (go_at_call 107; refine (specBehind_any (q : Int) n _ (by omega) (by omega)).mono ?_; rintro e wq ⟨rfl, hwq⟩; rw [hwq]; clear hwq wq; have y10 := (F3.out.box.cell 10).trans F3.out.cur; have f10 := F3.out.box.frozen 10)
            have F4 := hide (F3.out.setCur (behI n (q : Int)))
            have P4 := hide (P3.out.trans (KpM.box F3.out 10 (.int .i64 (behI n (q : Int)))))
            clear y10 f10 y0
            generalize w4.setCell ⟨b, 10, none⟩ (.int .i64 (behI n (q : Int))) = w5 at F4 P4 ⊢
            generalize C.setIfInBounds 10 (.int .i64 (behI n (q : Int))) = C5 at F4
            have y11 : w5.cell? ⟨b, 11, none⟩ = some (.slice (some ⟨g2, 0, none⟩) n2 c2) := F4.out.slot (j := 2) (by omega) HR.out.2.2.1
            have hl5 : (L3 2).length = n2 := by rw [HL2.out 2 (by omega), HL.out.2.2.1]
            obtain ⟨x2, fx2⟩ := F4.out.val (j := 2) (k := k) (by omega) HR.out.2.2.2.2.2.2 (by rw [hl5]; exact hk)
            have hkI : (k : Int) < (n2 : Int) := by omega
            go_upto_region 9 with fail
            obtain ⟨f6, k6⟩ := F4.out.set (j := 2) (p := k) (by omega) HR.out.2.2.2.2.2.2 (q : Int)
            have F6 := hide f6
            have P6 := hide (P4.out.trans k6)
            clear f6 k6 y11 x2 fx2 F4 P4
            generalize w5.setCell ⟨g2, k, none⟩ (.int .i64 (q : Int)) = w6 at F6 P6 ⊢
            have y12 : w6.cell? ⟨b, 12, none⟩ = some (.slice g3 n3 c3) := F6.out.slot (j := 3) (by omega) HR.out.2.2.2.1
            have hl6 : (upd L3 2 ((L3 2).set k (q : Int))) 3 = LL 3 := by rw [upd_other _ _ _ _ (by omega), HL2.out 3 (by omega)]
            have hbs6 : base ≤ w6.heap.size := Nat.le_trans hbs P6.out.size
            have F7 := hide (F6.out.below ((Below.refl w6.heap.size w6).alloc (Nat.le_refl _) (.cells #[.int .i64 (k : Int)] 3)))
            have HO7 := hide (show (w6.alloc (.cells #[.int .i64 (k : Int)] 3)).ownsRow base 3 1 (.slice g3 n3 c3) n3 ((LL 3).map (Value.int .i64)) from by
              have h := F7.out.row 3 (by omega)
              rw [hl6, HR.out.2.2.2.1, ← HL.out.2.2.2] at h
              exact h)
            have P7 := hide (P6.out.trans (KpM.of_below b R ((Below.refl w6.heap.size w6).alloc (Nat.le_refl _) (.cells #[.int .i64 (k : Int)] 3))))
            have HL6 := hide hl6
            clear hl6 hl5
            go_wp2_with (first
              | (at_builtin; refine wpList_append_own_at _ rfl (.tmp 84) (.tmp 86) 29 rfl base 3 i0 (.int .i64 0) 1 8 Tryz.underlying29 hi hz0 hz1 hz2 rfl (by decide) (.slice g3 n3 c3) n3 _ rfl HO7.out ⟨w6.heap.size, 0, none⟩ 1 1 [.int .i64 (k : Int)] rfl rfl (cells_newI w6 (k : Int)) (by intro z hz; simp at hz; rcases hz with rfl; rfl) (by unfold maxLen; omega) (by omega) (by simp; omega) ?_
                 intro v8 w8 o8 g8 _ n8
                 obtain ⟨va, vc, rfl⟩ := own_shapeT o8
                 obtain ⟨f8, k8⟩ := F7.out.app (x := (k : Int)) (by rw [HL6.out, List.map_append, ← HL.out.2.2.2]; exact o8) (by rw [HR.out.2.2.2.1]; exact g8) (by rw [HR.out.2.2.2.1]; exact n8.imp id (fun e => ⟨_, e, Nat.le_refl _⟩))
                 have F8 := hide f8
                 have P8 := hide (P7.out.trans k8)
                 have hb8 : Blk w8 b C5 77 := (g8.block b F7.out.box.lt (fun e => F7.out.ne_box (j := 3) (by omega) (by rw [HR.out.2.2.2.1]; exact e.symm))).trans F7.out.box
                 have y12 : ∃ v, w8.cell? ⟨b, 12, none⟩ = some v := ⟨_, (hb8.cell 12).trans (F7.out.at_ 3 (by omega))⟩
                 obtain ⟨v12, y12⟩ := y12
                 have f12 := hb8.frozen 12
                 clear o8 g8 n8 f8 k8 hb8)
              | fail)
            refine bodyPost_ret (results_none rfl _ _ _) rfl ?_
            refine ⟨rfl, ?_⟩
            rw [HPk.out]
            refine ⟨C5.setIfInBounds 12 (.slice va (n3 + 1) vc), _, ?_, P8.out⟩
            have hf := F8.out
            rw [HL6.out] at hf
            unfold gvL
            rw [HCl.out, show LL 2 = L3 2 from (HL2.out 2 (by omega)).symm]
            exact hf
        · have hyb : (zo == 0) = false := by simpa using hy
          clear hz
          have HN2 := hide (show ¬ ((LL 0).getD (ordAt n cN j) 0 = 0 ∧ (LL 1).getD (ordAt n cN j) 0 = 0) from fun h => hy (by rw [HZ.out.2, HQ.out]; exact h.2))
          clear hy
          go_wp2
          go_roundw
          case rel => exact ⟨j + 1, by omega, by go_num, (by first | rfl | trivial), hide (fun x hx => by
            rcases (show x < j ∨ x = j by omega) with h | rfl
            · exact HN.out x h
            · exact HN2.out)⟩
          case measure => simp [intOf]; omega
      · have hzb : (zw == 0) = false := by simpa using hz
        have HN2 := hide (show ¬ ((LL 0).getD (ordAt n cN j) 0 = 0 ∧ (LL 1).getD (ordAt n cN j) 0 = 0) from fun h => hz (by rw [HZ.out.1, HQ.out]; exact h.1))
        clear hz
        go_wp2
        go_roundw
        case rel => exact ⟨j + 1, by omega, by go_num, (by first | rfl | trivial), hide (fun x hx => by
            rcases (show x < j ∨ x = j by omega) with h | rfl
            · exact HN.out x h
            · exact HN2.out)⟩
        case measure => simp [intOf]; omega
    · obtain rfl : j = n - 2 := by omega
      have HPk := hide (show pickB (LL 0) (LL 1) cN = none from pick_no (fun x hx => by rw [HL.out.1] at hx ⊢; exact HN.out x hx))
      have y13 : ∃ v, w1.cell? ⟨b, 13, none⟩ = some v := ⟨_, (F1.out.box.cell 13).trans F1.out.full⟩
      obtain ⟨v13, y13⟩ := y13
      have f13 := F1.out.box.frozen 13
      go_wp2
      go_end0
      refine ⟨rfl, ?_⟩
      rw [HPk.out]
      exact ⟨_, F1.out.setFull true, P1.out.trans (KpM.box F1.out 13 _)⟩
end Go.Proofs.YtlimollpocagiaaGreatDoor
