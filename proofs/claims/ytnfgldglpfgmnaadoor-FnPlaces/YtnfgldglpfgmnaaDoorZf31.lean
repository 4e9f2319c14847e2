/- The program's numbers: below. The program's renewal: count. -/
import Derived.Test.YtnfgldglpfgmnaaDoorZf30
namespace Go.Proofs.YtnfgldglpfgmnaaDoor
set_option linter.unusedVariables false
set_option linter.unusedSimpArgs false
open Go.RowKit

/-- The words of the pointer block at level l + 1, rank r. -/
def wordsN (Ls : Nat → List Int) (l r : Nat) : List Int := (List.range 128).map (fun k => (Ls l).getD (belR l r k) 0)
set_option maxRecDepth 100000 in
set_option maxHeartbeats 2000000 in
theorem belowN_any (b off l r : Nat) (C : Array Value) (t : TypeId) (sl : Nat → Value) (Ls : Nat → List Int) (base : Nat) (w : World) (h : NumS w base b off C t sl Ls) (hl : l < 2) (hr : r ≤ 700) :
    Calls Tryd.prog 76 #[.pointer (some ⟨b, off, none⟩), spotV (l + 1) r] w fun e w' => e = .returned (.agg ((wordsN Ls l r).map (Value.int .i64)).toArray) ∧ Below w.heap.size w w' := by
  obtain ⟨Z1, hZ1, hAl1⟩ := letBw
  have HAl := hide (And.intro hZ1 hAl1)
  have HN := hide h
  clear h hZ1 hAl1
  obtain ⟨W3, hW3⟩ : ∃ W3, W3 = ((w.alloc (.cells #[.int .i64 ((l : Int) + 1), .int .i64 (r : Int)] 113)).alloc (.cells Z1 141)).alloc (.cells Z1 141) := ⟨_, rfl⟩
  have B0 := hide (show Below w.heap.size w W3 from by rw [hW3]; exact (((Below.refl _ _).alloc (Nat.le_refl _) _).alloc (by simp) _).alloc (by simp; omega) _)
  have K0 := hide (show Blk W3 w.heap.size #[.int .i64 ((l : Int) + 1), .int .i64 (r : Int)] 113 from by rw [hW3]; exact ((Blk.new w _ _).alloc _).alloc _)
  have K1 := hide (show Blk W3 (w.heap.size + 1) Z1 141 from by have h := Blk.new (w.alloc (.cells #[.int .i64 ((l : Int) + 1), .int .i64 (r : Int)] 113)) Z1 141; rw [World.size_alloc] at h; rw [hW3]; exact h.alloc _)
  have K2 := hide (show Blk W3 (w.heap.size + 2) Z1 141 from by have h := Blk.new ((w.alloc (.cells #[.int .i64 ((l : Int) + 1), .int .i64 (r : Int)] 113)).alloc (.cells Z1 141)) Z1 141; rw [World.size_alloc, World.size_alloc] at h; rw [hW3]; exact h)
  have HW3 := hide hW3
  clear hW3
  go_enter Tryd.func76, Tryd.ntmps76
  go_upto_region 2 with (first
    | (refine Great.wpList_allocTo rfl (some 4) rfl (.pointer (some ⟨w.heap.size + 1, 0, none⟩)) (.cells Z1 141) (by have e := HAl.out.2; rw [show w.heap.size + 1 = (w.alloc (.cells #[.int .i64 ((l : Int) + 1), .int .i64 (r : Int)] 113)).heap.size by simp]; exact e _ _ _ rfl) ?_)
    | (refine Great.wpList_allocTo rfl (some 5) rfl (.pointer (some ⟨w.heap.size + 2, 0, none⟩)) (.cells Z1 141) (by have e := HAl.out.2; rw [show w.heap.size + 2 = ((w.alloc (.cells #[.int .i64 ((l : Int) + 1), .int .i64 (r : Int)] 113)).alloc (.cells Z1 141)).heap.size by simp]; exact e _ _ _ rfl) ?_))
  rw [← HW3.out]
  simp only [Act.put, List.setIfInBounds_toArray, List.set_cons_zero, List.set_cons_succ]
  go_wp2
  go_loopw [7] (fun kv wr => ∃ (k : Nat) (A : Array Value), k ≤ 128 ∧ kv = .int .i64 (k : Int) ∧ A.size = 128 ∧ (∀ j, j < k → A[j]? = some (.int .i64 ((Ls l).getD (belR l r j) 0))) ∧ Blk wr (w.heap.size + 2) A 141 ∧ Blk wr w.heap.size #[.int .i64 ((l : Int) + 1), .int .i64 (r : Int)] 113 ∧ Blk wr (w.heap.size + 1) Z1 141 ∧ Below w.heap.size w wr) (fun kv _ => 128 - (intOf kv).toNat)
  case atStart => exact ⟨0, Z1, by omega, rfl, HAl.out.1, fun j hj => absurd hj (by omega), K2.out, K0.out, K1.out, B0.out⟩
  case round =>
    obtain ⟨k, A, hk1, rfl, hA, hAj, kA, kS, kZ, hb⟩ := hrel
    have HI := hide (And.intro hA (And.intro hAj (And.intro kA (And.intro kS (And.intro kZ hb)))))
    clear hA hAj kA kS kZ hb
    by_cases hk2 : k < 128
    · have hkI : (k : Int) < 128 := by omega
      have HX := hide (show ∃ x, x = (Ls l).getD (belR l r k) 0 from ⟨_, rfl⟩)
      obtain ⟨x, hx⟩ := HX.out
      clear HX
      have HX := hide hx
      clear hx
      have HBl := hide (show belR l r k ≤ 100000 from by unfold belR; split <;> omega)
      have hrg : wr.rangeAt w.heap.size 0 [.int .i64 ((l : Int) + 1), .int .i64 (r : Int)] := by
        intro j v hj
        match j, hj with
        | 0, hj => rw [HI.out.2.2.2.1.cell (0 + 0)]; simpa using hj
        | 1, hj => rw [HI.out.2.2.2.1.cell (0 + 1)]; simpa using hj
        | k + 2, hj => simp at hj
      have HRg := hide hrg
      clear hrg
      go_wp2_with (first
        | (refine wpList_load_mid rfl 113 _ rfl w.heap.size 0 rfl [.int .i64 ((l : Int) + 1), .int .i64 (r : Int)] _ HRg.out Tryd.underlying113 rfl infoSp ?_)
        | (go_at_call 96; refine (spotBelow_any l r k _ (by omega) (by omega) (by omega)).mono ?_; rintro e w5 ⟨rfl, b5⟩; have B5 := hide b5; clear b5)
        | (go_at_call 52; refine (atS_any b off l (belR l r k) C t sl Ls base _ (HN.out.below (HI.out.2.2.2.2.2.trans (B5.out.mono HI.out.2.2.2.2.2.size))) (by omega) HBl.out).mono ?_; rintro e w6 ⟨rfl, b6⟩; rw [← HX.out]; have B6 := hide (B5.out.trans (b6.mono B5.out.size)); clear b6; have K6 := hide (HI.out.2.2.1.below B6.out HI.out.2.2.1.lt); have c6 := K6.out.cell k; have f6 := K6.out.frozen k; rw [Array.getElem?_eq_getElem (by have := HI.out.1; omega)] at c6))
      have hW6 := HI.out.2.2.2.2.2.trans (B6.out.mono HI.out.2.2.2.2.2.size)
      refine ⟨⟨k + 1, A.setIfInBounds k (.int .i64 x), by omega, by go_num, by simpa using HI.out.1, fun j hj => ?_, K6.out.set k _, (HI.out.2.2.2.1.below B6.out HI.out.2.2.2.1.lt).other _ _ (by show w.heap.size ≠ w.heap.size + 2; omega), (HI.out.2.2.2.2.1.below B6.out HI.out.2.2.2.2.1.lt).other _ _ (by show w.heap.size + 1 ≠ w.heap.size + 2; omega), hW6.setCell (p := ⟨w.heap.size + 2, k, none⟩) (by show w.heap.size ≤ w.heap.size + 2; omega) _⟩, by simp [intOf]; omega⟩
      by_cases e : j = k
      · subst e
        rw [Array.getElem?_setIfInBounds_self_of_lt (by have := HI.out.1; omega), HX.out]
      · rw [Array.getElem?_setIfInBounds_ne (by omega)]
        exact HI.out.2.1 j (by omega)
    · have hk3 : k = 128 := by omega
      subst hk3
      clear hk2
      have hAW : A = ((wordsN Ls l r).map (Value.int .i64)).toArray := by
        apply Array.ext_getElem?
        intro j
        by_cases hj : j < 128
        · rw [HI.out.2.1 j hj]
          simp [wordsN, hj]
        · rw [Array.getElem?_eq_none (by have := HI.out.1; omega), Array.getElem?_eq_none (by simp [wordsN]; omega)]
      have HAW := hide hAW
      have HO := hide (show A.all (·.oneCell') = true from by rw [hAW]; exact i64_one _)
      have HIn := hide (show (Tryd.prog.info? 141).map (·.size) = some A.size from by rw [HI.out.1]; exact infoBw)
      clear hAW
      go_wp2_with (first
        | (refine wpList_load_row rfl 141 _ rfl (w.heap.size + 2) rfl 141 A (0, 0) _ HI.out.2.2.1 Tryd.underlying141 rfl HIn.out ?_)
        | (refine wpList_store_row rfl 141 _ _ rfl (w.heap.size + 1) A rfl rfl 141 Z1 HI.out.2.2.2.2.1 HIn.out (by rw [HI.out.1, HAl.out.1]) HO.out ?_))
      refine bodyPost_ret (v := .agg A) ?_ rfl ⟨by rw [HAW.out], below_setRow HI.out.2.2.2.2.2 (by omega) _⟩
      exact results_cell_row rfl _ _ (w.heap.size + 1) 141 _ (0, 0) _ rfl (HI.out.2.2.2.2.1.row _) Tryd.underlying141 rfl HIn.out
end Go.Proofs.YtnfgldglpfgmnaaDoor

namespace Go.Proofs.YtnfgldglpfgmnaaDoor
set_option linter.unusedVariables false
set_option linter.unusedSimpArgs false
open Go.RowKit

theorem infoNs : (Tryd.prog.info? 69).map (·.size) = some 3 := by kernel_rfl
theorem ix0 (x0 x1 x2 : Value) (w : World) : (Instr.index 69 (.agg #[x0, x1, x2]) (.int .i64 0)).run Tryd.prog w = .ok x0 w := by kernel_rfl
theorem ix1 (x0 x1 x2 : Value) (w : World) : (Instr.index 69 (.agg #[x0, x1, x2]) (.int .i64 1)).run Tryd.prog w = .ok x1 w := by kernel_rfl
theorem ix2 (x0 x1 x2 : Value) (w : World) : (Instr.index 69 (.agg #[x0, x1, x2]) (.int .i64 2)).run Tryd.prog w = .ok x2 w := by kernel_rfl
/-- How many numbers there are up to level k. -/
def cntN (Ls : Nat → List Int) (k : Nat) : Nat := ((List.range k).flatMap (fun l => someM (Ls l))).length
theorem cntN_succ (Ls : Nat → List Int) (k : Nat) : cntN Ls (k + 1) = cntN Ls k + (someM (Ls k)).length := by unfold cntN; rw [List.range_succ, List.flatMap_append]; simp
set_option maxRecDepth 100000 in
set_option maxHeartbeats 2000000 in
theorem count_any (b : Nat) (C : Array Value) (t : TypeId) (sl : Nat → Value) (Ls : Nat → List Int) (base : Nat) (w : World) (h : NumS w base b 20 C t sl Ls) (hLl : ∀ l, l < 3 → (Ls l).length ≤ 100001) :
    Calls Tryd.prog 29 #[.pointer (some ⟨b, 0, none⟩)] w fun e w' => e = .returned (.int .i64 (cntN Ls 3 : Nat)) ∧ w' = w := by
  obtain ⟨a0, c0, e0⟩ := own_shape5 (h.row 0 (by omega))
  obtain ⟨a1, c1, e1⟩ := own_shape5 (h.row 1 (by omega))
  obtain ⟨a2, c2, e2⟩ := own_shape5 (h.row 2 (by omega))
  have hr0 := Rd.own (k := .i64) (h.row 0 (by omega))
  have hr1 := Rd.own (k := .i64) (h.row 1 (by omega))
  have hr2 := Rd.own (k := .i64) (h.row 2 (by omega))
  rw [e0] at hr0
  rw [e1] at hr1
  rw [e2] at hr2
  obtain ⟨L0, hL0⟩ : ∃ L, L = Ls 0 := ⟨_, rfl⟩
  obtain ⟨L1, hL1⟩ : ∃ L, L = Ls 1 := ⟨_, rfl⟩
  obtain ⟨L2, hL2⟩ : ∃ L, L = Ls 2 := ⟨_, rfl⟩
  rw [← hL0] at hr0 e0
  rw [← hL1] at hr1 e1
  rw [← hL2] at hr2 e2
  have hrg : w.rangeAt b 20 [.slice a0 L0.length c0, .slice a1 L1.length c1, .slice a2 L2.length c2] := by
    intro j v hj
    match j, hj with
    | 0, hj => rw [h.box.cell (20 + 0), h.at_ 0 (by omega), e0]; simpa using hj
    | 1, hj => rw [h.box.cell (20 + 1), h.at_ 1 (by omega), e1]; simpa using hj
    | 2, hj => rw [h.box.cell (20 + 2), h.at_ 2 (by omega), e2]; simpa using hj
    | k + 3, hj => simp at hj
  have HRg := hide hrg
  have l0 : L0.length ≤ 100001 := by rw [hL0]; exact hLl 0 (by omega)
  have l1 : L1.length ≤ 100001 := by rw [hL1]; exact hLl 1 (by omega)
  have l2 : L2.length ≤ 100001 := by rw [hL2]; exact hLl 2 (by omega)
  have HR := hide (And.intro hr0 (And.intro hr1 hr2))
  have HE := hide (And.intro (show cntN Ls 0 = 0 from rfl) (And.intro (show cntN Ls 1 = (someM L0).length from by rw [cntN_succ, hL0]; simp [cntN]) (And.intro (show cntN Ls 2 = (someM L0).length + (someM L1).length from by rw [cntN_succ, cntN_succ, hL0, hL1]; simp [cntN]) (show cntN Ls 3 = (someM L0).length + (someM L1).length + (someM L2).length from by rw [cntN_succ, cntN_succ, cntN_succ, hL0, hL1, hL2]; simp [cntN]))))
  have HM := hide (And.intro (some_len L0) (And.intro (some_len L1) (some_len L2)))
  clear h hLl e0 e1 e2 hr0 hr1 hr2 hL0 hL1 hL2 hrg
  go_enter Tryd.func29, Tryd.ntmps29
  go_wp2_with (first
    | (refine wpList_load_mid rfl 69 _ rfl b 20 rfl [.slice a0 L0.length c0, .slice a1 L1.length c1, .slice a2 L2.length c2] _ HRg.out Tryd.underlying69 rfl infoNs ?_))
  go_loopw [12, 3] (fun kv nv wr => ∃ k n : Nat, k ≤ 3 ∧ kv = .int .i64 (k : Int) ∧ nv = .int .i64 (n : Int) ∧ n = cntN Ls k ∧ w = wr) (fun kv _ _ => 3 - (intOf kv).toNat)
  case atStart => exact ⟨0, 0, by omega, rfl, rfl, rfl, rfl⟩
  case round =>
    obtain ⟨k, n, hk, rfl, rfl, hn, rfl⟩ := hrel
    have HN := hide hn
    clear hn
    by_cases hk3 : k < 3
    · have hkc : k = 0 ∨ k = 1 ∨ k = 2 := by omega
      rcases hkc with rfl | rfl | rfl
      · have hn0 : n ≤ 400000 := by have h1 := HN.out; rw [HE.out.1] at h1; have h2 := HM.out; omega
        have hix := ix0 (.slice a0 L0.length c0) (.slice a1 L1.length c1) (.slice a2 L2.length c2)
        go_wp2
        go_loopw [17, 3] (fun jv nv wr => ∃ j m : Nat, j ≤ L0.length ∧ jv = .int .i64 (j : Int) ∧ nv = .int .i64 (m : Int) ∧ m = n + (someM (L0.take j)).length ∧ w = wr) (fun jv _ _ => L0.length - (intOf jv).toNat)
        case atStart => exact ⟨0, n, by omega, rfl, rfl, by simp [someM], rfl⟩
        case round =>
          obtain ⟨j, m, hj, rfl, rfl, hm, rfl⟩ := hrel
          have HMj := hide hm
          have hm2 : m ≤ 600000 := by have := some_len (L0.take j); rw [List.length_take] at this; omega
          clear hm
          by_cases hj2 : j < L0.length
          · obtain ⟨eb, eo, ec, e, _, _, _, hcell⟩ := (HR.out.1).partsC (by omega)
            injection e with e1 e2 e3
            subst e1
            have cx := hcell j hj2
            obtain ⟨x, hx⟩ : ∃ x, x = L0.getD j 0 := ⟨_, rfl⟩
            rw [← hx] at cx
            have HX := hide hx
            have hjI : (j : Int) < (L0.length : Int) := by omega
            clear hcell hx e2 e3
            by_cases hx0 : x = 0
            · have hx1 : (x != 0) = false := by simp [hx0]
              go_wp2
              go_roundw
              case rel => exact ⟨j + 1, m, by omega, by go_num, rfl, by rw [some_snoc L0 j hj2, ← HX.out, if_pos hx0, List.append_nil]; exact HMj.out, trivial⟩
              case measure => simp [intOf]; omega
            · have hx1 : (x != 0) = true := by simp [hx0]
              go_wp2
              go_roundw
              case rel => exact ⟨j + 1, m + 1, by omega, by go_num, by go_num, by rw [some_snoc L0 j hj2, ← HX.out, if_neg hx0, List.length_append]; have := HMj.out; simp; omega, trivial⟩
              case measure => simp [intOf]; omega
          · have hj3 : j = L0.length := by omega
            have HMe := hide (show m = cntN Ls (0 + 1) from by have h1 := HMj.out; rw [hj3, List.take_length] at h1; have h2 := HN.out; rw [HE.out.1] at h2; rw [HE.out.2.1]; omega)
            clear hj3
            have hjI : ¬ (j : Int) < (L0.length : Int) := by omega
            go_wp2
            go_roundw
            case rel => exact ⟨1, m, by omega, by go_num, rfl, HMe.out, trivial⟩
            case measure => simp [intOf]
      · have hn0 : n ≤ 400000 := by have h1 := HN.out; rw [HE.out.2.1] at h1; have h2 := HM.out; omega
        have hix := ix1 (.slice a0 L0.length c0) (.slice a1 L1.length c1) (.slice a2 L2.length c2)
        go_wp2
        go_loopw [17, 3] (fun jv nv wr => ∃ j m : Nat, j ≤ L1.length ∧ jv = .int .i64 (j : Int) ∧ nv = .int .i64 (m : Int) ∧ m = n + (someM (L1.take j)).length ∧ w = wr) (fun jv _ _ => L1.length - (intOf jv).toNat)
        case atStart => exact ⟨0, n, by omega, rfl, rfl, by simp [someM], rfl⟩
        case round =>
          obtain ⟨j, m, hj, rfl, rfl, hm, rfl⟩ := hrel
          have HMj := hide hm
          have hm2 : m ≤ 600000 := by have := some_len (L1.take j); rw [List.length_take] at this; omega
          clear hm
          by_cases hj2 : j < L1.length
          · obtain ⟨eb, eo, ec, e, _, _, _, hcell⟩ := (HR.out.2.1).partsC (by omega)
            injection e with e1 e2 e3
            subst e1
            have cx := hcell j hj2
            obtain ⟨x, hx⟩ : ∃ x, x = L1.getD j 0 := ⟨_, rfl⟩
            rw [← hx] at cx
            have HX := hide hx
            have hjI : (j : Int) < (L1.length : Int) := by omega
            clear hcell hx e2 e3
            by_cases hx0 : x = 0
            · have hx1 : (x != 0) = false := by simp [hx0]
              go_wp2
              go_roundw
              case rel => exact ⟨j + 1, m, by omega, by go_num, rfl, by rw [some_snoc L1 j hj2, ← HX.out, if_pos hx0, List.append_nil]; exact HMj.out, trivial⟩
              case measure => simp [intOf]; omega
            · have hx1 : (x != 0) = true := by simp [hx0]
              go_wp2
              go_roundw
              case rel => exact ⟨j + 1, m + 1, by omega, by go_num, by go_num, by rw [some_snoc L1 j hj2, ← HX.out, if_neg hx0, List.length_append]; have := HMj.out; simp; omega, trivial⟩
              case measure => simp [intOf]; omega
          · have hj3 : j = L1.length := by omega
            have HMe := hide (show m = cntN Ls (1 + 1) from by have h1 := HMj.out; rw [hj3, List.take_length] at h1; have h2 := HN.out; rw [HE.out.2.1] at h2; rw [HE.out.2.2.1]; omega)
            clear hj3
            have hjI : ¬ (j : Int) < (L1.length : Int) := by omega
            go_wp2
            go_roundw
            case rel => exact ⟨2, m, by omega, by go_num, rfl, HMe.out, trivial⟩
            case measure => simp [intOf]
      · have hn0 : n ≤ 400000 := by have h1 := HN.out; rw [HE.out.2.2.1] at h1; have h2 := HM.out; omega
        have hix := ix2 (.slice a0 L0.length c0) (.slice a1 L1.length c1) (.slice a2 L2.length c2)
        go_wp2
        go_loopw [17, 3] (fun jv nv wr => ∃ j m : Nat, j ≤ L2.length ∧ jv = .int .i64 (j : Int) ∧ nv = .int .i64 (m : Int) ∧ m = n + (someM (L2.take j)).length ∧ w = wr) (fun jv _ _ => L2.length - (intOf jv).toNat)
        case atStart => exact ⟨0, n, by omega, rfl, rfl, by simp [someM], rfl⟩
        case round =>
          obtain ⟨j, m, hj, rfl, rfl, hm, rfl⟩ := hrel
          have HMj := hide hm
          have hm2 : m ≤ 600000 := by have := some_len (L2.take j); rw [List.length_take] at this; omega
          clear hm
          by_cases hj2 : j < L2.length
          · obtain ⟨eb, eo, ec, e, _, _, _, hcell⟩ := (HR.out.2.2).partsC (by omega)
            injection e with e1 e2 e3
            subst e1
            have cx := hcell j hj2
            obtain ⟨x, hx⟩ : ∃ x, x = L2.getD j 0 := ⟨_, rfl⟩
            rw [← hx] at cx
            have HX := hide hx
            have hjI : (j : Int) < (L2.length : Int) := by omega
            clear hcell hx e2 e3
            by_cases hx0 : x = 0
            · have hx1 : (x != 0) = false := by simp [hx0]
              go_wp2
              go_roundw
              case rel => exact ⟨j + 1, m, by omega, by go_num, rfl, by rw [some_snoc L2 j hj2, ← HX.out, if_pos hx0, List.append_nil]; exact HMj.out, trivial⟩
              case measure => simp [intOf]; omega
            · have hx1 : (x != 0) = true := by simp [hx0]
              go_wp2
              go_roundw
              case rel => exact ⟨j + 1, m + 1, by omega, by go_num, by go_num, by rw [some_snoc L2 j hj2, ← HX.out, if_neg hx0, List.length_append]; have := HMj.out; simp; omega, trivial⟩
              case measure => simp [intOf]; omega
          · have hj3 : j = L2.length := by omega
            have HMe := hide (show m = cntN Ls (2 + 1) from by have h1 := HMj.out; rw [hj3, List.take_length] at h1; have h2 := HN.out; rw [HE.out.2.2.1] at h2; rw [HE.out.2.2.2]; omega)
            clear hj3
            have hjI : ¬ (j : Int) < (L2.length : Int) := by omega
            go_wp2
            go_roundw
            case rel => exact ⟨3, m, by omega, by go_num, rfl, HMe.out, trivial⟩
            case measure => simp [intOf]
    · have hk4 : k = 3 := by omega
      subst hk4
      clear hk3
      go_wp2
      go_ret
      exact ⟨by rw [← HN.out]; rfl, rfl⟩
end Go.Proofs.YtnfgldglpfgmnaaDoor
