/- A right map, as the model and the program look at it: L04Right, mapFault. -/
import Derived.Test.YtbgiccgfgljkbaaDoorInts
import Derived.Test.YtbgiccgfgljkbaaDoorCheck
import Derived.Test.YtbgiccgfgljkbaaDoorCells
namespace Go.Proofs.YtbgiccgfgljkbaaDoor
set_option linter.unusedVariables false
set_option linter.unusedSimpArgs false
open Go.RowKit

def wordB (z : Int) : Bool := decide (0 ≤ z) && decide (z ≤ 4294967295)
def headB (i : Nat) (z : Int) : Bool := decide (2 ≤ i) || decide (z = 1)
def okTo (ws : List Int) : Nat → Bool
  | 0 => true
  | k + 1 => okTo ws k && (wordB (ws.getD k 0) && headB k (ws.getD k 0))
def sizeB (n : Nat) : Bool := decide (64 ≤ n) && decide (n ≤ 2048)
/-- A right map: chapter 5's word. -/
def rightM (ws : List Int) : Bool := sizeB ws.length && okTo ws ws.length

set_option maxRecDepth 100000 in
set_option maxHeartbeats 2000000 in
theorem mapFault_any (v : Value) (ws : List Int) (w : World) (h : Rd .i64 w v ws) :
    Calls Tryd.prog 23 #[v] w fun e w' => ∃ ev, e = .returned ev ∧ FaultIs w' w.heap.size (rightM ws) ev 7 ∧ Below w.heap.size w w' := by
  have hm := h.len
  unfold maxLen at hm
  have hb0 : Below w.heap.size w (w.alloc (.cells #[.int .i64 7, .nilIface] 53)) := (Below.refl _ _).alloc (Nat.le_refl _) _
  have K := hide (And.intro (Ck.fresh w 7 53) hb0)
  have HS := hide (show sizeB ws.length = (decide ((64 : Int) ≤ (ws.length : Int)) && decide ((ws.length : Int) ≤ 2048)) from by unfold sizeB; congr 1 <;> (apply decide_eq_decide.2; omega))
  have HR := hide (show ∀ b, okTo ws ws.length = b → rightM ws = (sizeB ws.length && b) from fun b hb => by unfold rightM; rw [hb])
  have HO := hide (show ∀ k, okTo ws (k + 1) = (okTo ws k && (wordB (ws.getD k 0) && headB k (ws.getD k 0))) from fun k => rfl)
  have H0 := hide (show okTo ws 0 = true from rfl)
  clear hb0
  rcases h.parts with ⟨a, cap, rfl, hlow⟩ | ⟨b, off, cap, rfl, hbw, hcell⟩
  all_goals
    clear h
    go_enter Tryd.func23, Tryd.ntmps23
    go_wp2_with (go_at_call 28; fail)
    refine (within_any w.heap.size (w.heap.size + 1) _ 7 _ 64 2048 true _ K.out.1 (by omega) (by simp)).mono ?_
    rintro e w1 ⟨rfl, hc1, ht1⟩
    rw [Bool.true_and, ← HS.out] at hc1
    have H1 := hide (And.intro hc1 (ht1.under K.out.2 (Nat.le_refl _) (by simp)))
    clear hc1 ht1 K
    go_wp2
    go_loopw [12] (fun i wr => ∃ k : Nat, k ≤ ws.length ∧ i = .int .i64 k ∧ Ck wr w.heap.size (w.heap.size + 1) 7 (sizeB ws.length && okTo ws k) ∧ Below w.heap.size w wr) (fun i _ => ws.length - (intOf i).toNat)
    case atStart => exact ⟨0, by omega, rfl, by rw [H0.out, Bool.and_true]; exact H1.out.1, H1.out.2⟩
    case round =>
      obtain ⟨k, hk, rfl, hck, hbel⟩ := hrel
      have HK := hide (And.intro hck hbel)
      have hlt1 := hck.lt
      clear hck hbel H1
      by_cases hlt : k < ws.length
      · first
        | omega
        | (have c1 := (HK.out.2.cell (p := ⟨b, off + k, none⟩) hbw).trans (hcell k hlt)
           have HT := hide (HO.out k)
           clear hcell
           generalize ws.getD k 0 = z at c1 HT
           go_wp2_with (go_at_call 28; fail)
           refine (within_any w.heap.size (w.heap.size + 1) _ 7 z 0 4294967295 _ _ HK.out.1 (by omega) (by omega)).mono ?_
           rintro e w2 ⟨rfl, hc2, ht2⟩
           have H2 := hide (And.intro hc2 (ht2.under HK.out.2 (Nat.le_refl _) (by omega)))
           have hlt2 := hc2.lt
           clear hc2 ht2 HK c1
           by_cases h2 : 2 ≤ k
           · have HH := hide (show headB k z = true from by simp [headB, h2])
             go_wp2_with (go_at_call 32; refine (need_any w.heap.size (w.heap.size + 1) _ 7 _ true _ H2.out.1 (by omega) (by omega)).mono ?_; rintro e w3 ⟨rfl, hc3, ht3⟩)
             have H3 := hide (And.intro hc3 (ht3.under H2.out.2 (Nat.le_refl _) (by omega)))
             clear hc3 ht3
             go_roundw
             case rel => exact ⟨k + 1, by omega, by go_num, by rw [HT.out, HH.out, ← Bool.and_assoc, ← Bool.and_assoc]; exact H3.out.1, H3.out.2⟩
             case measure => simp [intOf]; omega
           · have HH := hide (show headB k z = (decide ((2 : Int) ≤ (k : Int)) || z == 1) from by unfold headB; congr 1; apply decide_eq_decide.2; omega)
             go_wp2_with (go_at_call 32; refine (need_any w.heap.size (w.heap.size + 1) _ 7 _ _ _ H2.out.1 (by omega) (by omega)).mono ?_; rintro e w3 ⟨rfl, hc3, ht3⟩)
             have H3 := hide (And.intro hc3 (ht3.under H2.out.2 (Nat.le_refl _) (by omega)))
             clear hc3 ht3
             go_roundw
             case rel => exact ⟨k + 1, by omega, by go_num, by rw [HT.out, HH.out, ← Bool.and_assoc, ← Bool.and_assoc]; exact H3.out.1, H3.out.2⟩
             case measure => simp [intOf]; omega)
      · have ek : k = ws.length := by omega
        obtain ⟨ev, c3, hf⟩ := HK.out.1.fault
        have HF := hide (And.intro hf (And.intro HK.out.2 ek))
        clear hf ek HK
        go_wp2
        go_ret
        refine ⟨ev, rfl, ?_, HF.out.2.1⟩
        have h := HF.out.1
        rw [HF.out.2.2] at h
        exact h.mono (by omega)

/-- The model's look. -/
theorem okTo_mono (ws : List Int) : ∀ (n k : Nat), k ≤ n → okTo ws n = true → okTo ws k = true
  | 0, k, hk, h => by have : k = 0 := by omega
                      subst this; exact h
  | n + 1, k, hk, h => by
    by_cases e : k = n + 1
    · subst e; exact h
    · have h' : (okTo ws n && (wordB (ws.getD n 0) && headB n (ws.getD n 0))) = true := h
      rw [Bool.and_eq_true] at h'
      exact okTo_mono ws n k (by omega) h'.1
theorem okTo_false (ws : List Int) (n k : Nat) (hk : k < n) (h : (wordB (ws.getD k 0) && headB k (ws.getD k 0)) = false) : okTo ws n = false := by
  cases e : okTo ws n with
  | false => rfl
  | true =>
    have h1 := okTo_mono ws n (k + 1) (by omega) e
    have h2 : (okTo ws k && (wordB (ws.getD k 0) && headB k (ws.getD k 0))) = true := h1
    rw [h, Bool.and_false] at h2
    cases h2

set_option maxRecDepth 100000 in
set_option maxHeartbeats 400000 in
theorem right_any (v : Value) (ws : List Int) (w : World) (h : Rd .i64 w v ws) :
    Calls Tryd.prog 21 #[v] w fun e w' => e = .returned (.bool (rightM ws)) ∧ w' = w := by
  have hm := h.len
  unfold maxLen at hm
  by_cases h1 : ws.length < 64
  · have HR := hide (show rightM ws = false from by simp [rightM, sizeB]; omega)
    obtain ⟨a, cap, rfl, _⟩ := h
    go_enter Tryd.func21, Tryd.ntmps21
    go_wp2
    go_ret
    exact ⟨ret_bool HR.out.symm, rfl⟩
  · by_cases h2 : 2048 < ws.length
    · have HR := hide (show rightM ws = false from by simp [rightM, sizeB]; omega)
      obtain ⟨a, cap, rfl, _⟩ := h
      go_enter Tryd.func21, Tryd.ntmps21
      go_wp2
      go_ret
      exact ⟨ret_bool HR.out.symm, rfl⟩
    · obtain ⟨b, off, cap, rfl, hbw, _, _, hcell⟩ := h.partsC (by omega)
      have HZ := hide (show rightM ws = okTo ws ws.length from by
        have e : sizeB ws.length = true := by simp [sizeB]; omega
        rw [rightM, e, Bool.true_and])
      have HF := hide (okTo_false ws ws.length)
      have HO := hide (show ∀ k, okTo ws (k + 1) = (okTo ws k && (wordB (ws.getD k 0) && headB k (ws.getD k 0))) from fun k => rfl)
      have c0 := hcell 0 (by omega)
      have c1 := hcell 1 (by omega)
      rw [Nat.add_zero] at c0
      by_cases h3 : ws.getD 0 0 = 1
      · by_cases h4 : ws.getD 1 0 = 1
        · rw [h3] at c0
          rw [h4] at c1
          have HH := hide (show ∀ k, headB k (ws.getD k 0) = true from fun k => by
            unfold headB
            by_cases hk : 2 ≤ k
            · simp [hk]
            · have : k = 0 ∨ k = 1 := by omega
              rcases this with rfl | rfl
              · rw [h3]; simp
              · rw [h4]; simp)
          have H0 := hide (show okTo ws 0 = true from rfl)
          have HC := hide hcell
          clear h3 h4 hcell h
          go_enter Tryd.func21, Tryd.ntmps21
          go_wp2
          go_loop [27] (fun i => ∃ k : Nat, k ≤ ws.length ∧ i = .int .i64 k ∧ okTo ws k = true) (fun i => ws.length - (intOf i).toNat)
          case atStart => exact ⟨0, by omega, rfl, H0.out⟩
          case round =>
            obtain ⟨k, hk, rfl, hok⟩ := hrel
            have HK := hide hok
            clear hok c0 c1
            by_cases hlt : k < ws.length
            · have ck := HC.out k hlt
              have HT := hide (HO.out k)
              have HE := hide (HF.out k hlt)
              rw [HH.out k, Bool.and_true] at HT HE
              generalize ws.getD k 0 = z at ck HT HE
              by_cases hz0 : z < 0
              · have hw := hide (show wordB z = false from by simp [wordB]; omega)
                go_wp2
                go_ret
                exact ⟨ret_bool (by rw [HZ.out, HE.out hw.out]), rfl⟩
              · by_cases hz1 : 4294967295 < z
                · have hw := hide (show wordB z = false from by simp [wordB]; omega)
                  go_wp2
                  go_ret
                  exact ⟨ret_bool (by rw [HZ.out, HE.out hw.out]), rfl⟩
                · have hw := hide (show wordB z = true from by simp [wordB]; omega)
                  go_wp2
                  go_round
                  case rel => exact ⟨k + 1, by omega, by go_num, by rw [HT.out, HK.out, hw.out]; rfl⟩
                  case measure => simp [intOf]; omega
            · have ek : k = ws.length := by omega
              have HE := hide (show okTo ws ws.length = true from by rw [← ek]; exact HK.out)
              clear ek
              go_wp2
              go_ret
              exact ⟨ret_bool (by rw [HZ.out, HE.out]), rfl⟩
        · have HR := hide (show okTo ws ws.length = false from HF.out 1 (by omega) (by simp [headB]; intro _; exact h4))
          have hq : (ws.getD 1 0 != 1) = true := by simpa using h4
          rw [h3] at c0
          generalize ws.getD 1 0 = z1 at c1 hq
          clear h3 h4 hcell h
          go_enter Tryd.func21, Tryd.ntmps21
          go_wp2
          go_ret
          exact ⟨ret_bool (by rw [HZ.out, HR.out]), rfl⟩
      · have HR := hide (show okTo ws ws.length = false from HF.out 0 (by omega) (by simp [headB]; intro _; exact h3))
        have hq : (ws.getD 0 0 != 1) = true := by simpa using h3
        generalize ws.getD 0 0 = z0 at c0 hq
        clear h3 hcell h c1
        go_enter Tryd.func21, Tryd.ntmps21
        go_wp2
        go_ret
        exact ⟨ret_bool (by rw [HZ.out, HR.out]), rfl⟩
end Go.Proofs.YtbgiccgfgljkbaaDoor
