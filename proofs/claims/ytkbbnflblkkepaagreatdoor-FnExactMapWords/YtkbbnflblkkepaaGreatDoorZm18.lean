/- A right map, as the model and the program look at it: L04Right, mapFault. The map's words out of its tree: wordsOf of any length, readMap. -/
import Derived.Test.YtkbbnflblkkepaaGreatDoorZm05
import Derived.Test.YtkbbnflblkkepaaGreatDoorZm03
import Derived.Test.YtkbbnflblkkepaaGreatDoorZm06
import Derived.Test.YtkbbnflblkkepaaGreatDoorZm17
namespace Go.Proofs.YtkbbnflblkkepaaGreatDoor
set_option linter.unusedVariables false
set_option linter.unusedSimpArgs false
open Go.RowKit

def wordB (z : Int) : Bool := decide (0 ≤ z) && decide (z ≤ 4294967295)
def headB (i : Nat) (z : Int) : Bool := decide (2 ≤ i) || decide (z = 1)
def okTo (ws : List Int) : Nat → Bool
  | 0 => true
  | k + 1 => okTo ws k && (wordB (ws.getD k 0) && headB k (ws.getD k 0))
def sizeB (n : Nat) : Bool := decide (64 ≤ n) && decide (n ≤ 2048)
/-- A right map: chapter 5's word. -/
def rightM (ws : List Int) : Bool := sizeB ws.length && okTo ws ws.length

set_option maxRecDepth 100000 in
set_option maxHeartbeats 2000000 in
theorem mapFault_any (v : Value) (ws : List Int) (w : World) (h : Rd .i64 w v ws) :
    Calls Tryz.prog 51 #[v] w fun e w' => ∃ ev, e = .returned ev ∧ FaultIs w' w.heap.size (rightM ws) ev 7 ∧ Below w.heap.size w w' := by
  have hm := h.len
  unfold maxLen at hm
  have hb0 : Below w.heap.size w (w.alloc (.cells #[.int .i64 7, .nilIface] 99)) := (Below.refl _ _).alloc (Nat.le_refl _) _
  have K := hide (And.intro (Ck.fresh w 7 99) hb0)
  have HS := hide (show sizeB ws.length = (decide ((64 : Int) ≤ (ws.length : Int)) && decide ((ws.length : Int) ≤ 2048)) from by unfold sizeB; congr 1 <;> (apply decide_eq_decide.2; omega))
  have HR := hide (show ∀ b, okTo ws ws.length = b → rightM ws = (sizeB ws.length && b) from fun b hb => by unfold rightM; rw [hb])
  have HO := hide (show ∀ k, okTo ws (k + 1) = (okTo ws k && (wordB (ws.getD k 0) && headB k (ws.getD k 0))) from fun k => rfl)
  have H0 := hide (show okTo ws 0 = true from rfl)
  clear hb0
  rcases h.parts with ⟨a, cap, rfl, hlow⟩ | ⟨b, off, cap, rfl, hbw, hcell⟩
  all_goals
    clear h
    go_enter Tryz.func51, Tryz.ntmps51
    go_wp2_with (go_at_call 69; fail)
    refine (within_any w.heap.size (w.heap.size + 1) _ 7 _ 64 2048 true _ K.out.1 (by omega) (by simp)).mono ?_
    rintro e w1 ⟨rfl, hc1, ht1⟩
    rw [Bool.true_and, ← HS.out] at hc1
    have H1 := hide (And.intro hc1 (ht1.under K.out.2 (Nat.le_refl _) (by simp)))
    clear hc1 ht1 K
    go_wp2
    go_loopw [12] (fun i wr => ∃ k : Nat, k ≤ ws.length ∧ i = .int .i64 k ∧ Ck wr w.heap.size (w.heap.size + 1) 7 (sizeB ws.length && okTo ws k) ∧ Below w.heap.size w wr) (fun i _ => ws.length - (intOf i).toNat)
    case atStart => exact ⟨0, by omega, rfl, by rw [H0.out, Bool.and_true]; exact H1.out.1, H1.out.2⟩
    case round =>
      obtain ⟨k, hk, rfl, hck, hbel⟩ := hrel
      have HK := hide (And.intro hck hbel)
      have hlt1 := hck.lt
      clear hck hbel H1
      by_cases hlt : k < ws.length
      · first
        | omega
        | (have c1 := (HK.out.2.cell (p := ⟨b, off + k, none⟩) hbw).trans (hcell k hlt)
           have HT := hide (HO.out k)
           clear hcell
           generalize ws.getD k 0 = z at c1 HT
           go_wp2_with (go_at_call 69; fail)
           refine (within_any w.heap.size (w.heap.size + 1) _ 7 z 0 4294967295 _ _ HK.out.1 (by omega) (by omega)).mono ?_
           rintro e w2 ⟨rfl, hc2, ht2⟩
           have H2 := hide (And.intro hc2 (ht2.under HK.out.2 (Nat.le_refl _) (by omega)))
           have hlt2 := hc2.lt
           clear hc2 ht2 HK c1
           by_cases h2 : 2 ≤ k
           · have HH := hide (show headB k z = true from by simp [headB, h2])
             go_wp2_with (go_at_call 50; refine (need_any w.heap.size (w.heap.size + 1) _ 7 _ true _ H2.out.1 (by omega) (by omega)).mono ?_; rintro e w3 ⟨rfl, hc3, ht3⟩)
             have H3 := hide (And.intro hc3 (ht3.under H2.out.2 (Nat.le_refl _) (by omega)))
             clear hc3 ht3
             go_roundw
             case rel => exact ⟨k + 1, by omega, by go_num, by rw [HT.out, HH.out, ← Bool.and_assoc, ← Bool.and_assoc]; exact H3.out.1, H3.out.2⟩
             case measure => simp [intOf]; omega
           · have HH := hide (show headB k z = (decide ((2 : Int) ≤ (k : Int)) || z == 1) from by unfold headB; congr 1; apply decide_eq_decide.2; omega)
             go_wp2_with (go_at_call 50; refine (need_any w.heap.size (w.heap.size + 1) _ 7 _ _ _ H2.out.1 (by omega) (by omega)).mono ?_; rintro e w3 ⟨rfl, hc3, ht3⟩)
             have H3 := hide (And.intro hc3 (ht3.under H2.out.2 (Nat.le_refl _) (by omega)))
             clear hc3 ht3
             go_roundw
             case rel => exact ⟨k + 1, by omega, by go_num, by rw [HT.out, HH.out, ← Bool.and_assoc, ← Bool.and_assoc]; exact H3.out.1, H3.out.2⟩
             case measure => simp [intOf]; omega)
      · have ek : k = ws.length := by omega
        obtain ⟨ev, c3, hf⟩ := HK.out.1.fault
        have HF := hide (And.intro hf (And.intro HK.out.2 ek))
        clear hf ek HK
        go_wp2
        go_ret
        refine ⟨ev, rfl, ?_, HF.out.2.1⟩
        have h := HF.out.1
        rw [HF.out.2.2] at h
        exact h.mono (by omega)

/-- The model's look. -/
theorem okTo_mono (ws : List Int) : ∀ (n k : Nat), k ≤ n → okTo ws n = true → okTo ws k = true
  | 0, k, hk, h => by have : k = 0 := by omega
                      subst this; exact h
  | n + 1, k, hk, h => by
    by_cases e : k = n + 1
    · subst e; exact h
    · have h' : (okTo ws n && (wordB (ws.getD n 0) && headB n (ws.getD n 0))) = true := h
      rw [Bool.and_eq_true] at h'
      exact okTo_mono ws n k (by omega) h'.1
theorem okTo_false (ws : List Int) (n k : Nat) (hk : k < n) (h : (wordB (ws.getD k 0) && headB k (ws.getD k 0)) = false) : okTo ws n = false := by
  cases e : okTo ws n with
  | false => rfl
  | true =>
    have h1 := okTo_mono ws n (k + 1) (by omega) e
    have h2 : (okTo ws k && (wordB (ws.getD k 0) && headB k (ws.getD k 0))) = true := h1
    rw [h, Bool.and_false] at h2
    cases h2

set_option maxRecDepth 100000 in
set_option maxHeartbeats 400000 in
theorem right_any (v : Value) (ws : List Int) (w : World) (h : Rd .i64 w v ws) :
    Calls Tryz.prog 23 #[v] w fun e w' => e = .returned (.bool (rightM ws)) ∧ w' = w := by
  have hm := h.len
  unfold maxLen at hm
  by_cases h1 : ws.length < 64
  · have HR := hide (show rightM ws = false from by simp [rightM, sizeB]; omega)
    obtain ⟨a, cap, rfl, _⟩ := h
    go_enter Tryz.func23, Tryz.ntmps23
    go_wp2
    go_ret
    exact ⟨ret_bool HR.out.symm, rfl⟩
  · by_cases h2 : 2048 < ws.length
    · have HR := hide (show rightM ws = false from by simp [rightM, sizeB]; omega)
      obtain ⟨a, cap, rfl, _⟩ := h
      go_enter Tryz.func23, Tryz.ntmps23
      go_wp2
      go_ret
      exact ⟨ret_bool HR.out.symm, rfl⟩
    · obtain ⟨b, off, cap, rfl, hbw, _, _, hcell⟩ := h.partsC (by omega)
      have HZ := hide (show rightM ws = okTo ws ws.length from by
        have e : sizeB ws.length = true := by simp [sizeB]; omega
        rw [rightM, e, Bool.true_and])
      have HF := hide (okTo_false ws ws.length)
      have HO := hide (show ∀ k, okTo ws (k + 1) = (okTo ws k && (wordB (ws.getD k 0) && headB k (ws.getD k 0))) from fun k => rfl)
      have c0 := hcell 0 (by omega)
      have c1 := hcell 1 (by omega)
      rw [Nat.add_zero] at c0
      by_cases h3 : ws.getD 0 0 = 1
      · by_cases h4 : ws.getD 1 0 = 1
        · rw [h3] at c0
          rw [h4] at c1
          have HH := hide (show ∀ k, headB k (ws.getD k 0) = true from fun k => by
            unfold headB
            by_cases hk : 2 ≤ k
            · simp [hk]
            · have : k = 0 ∨ k = 1 := by omega
              rcases this with rfl | rfl
              · rw [h3]; simp
              · rw [h4]; simp)
          have H0 := hide (show okTo ws 0 = true from rfl)
          have HC := hide hcell
          clear h3 h4 hcell h
          go_enter Tryz.func23, Tryz.ntmps23
          go_wp2
          go_loop [27] (fun i => ∃ k : Nat, k ≤ ws.length ∧ i = .int .i64 k ∧ okTo ws k = true) (fun i => ws.length - (intOf i).toNat)
          case atStart => exact ⟨0, by omega, rfl, H0.out⟩
          case round =>
            obtain ⟨k, hk, rfl, hok⟩ := hrel
            have HK := hide hok
            clear hok c0 c1
            by_cases hlt : k < ws.length
            · have ck := HC.out k hlt
              have HT := hide (HO.out k)
              have HE := hide (HF.out k hlt)
              rw [HH.out k, Bool.and_true] at HT HE
              generalize ws.getD k 0 = z at ck HT HE
              by_cases hz0 : z < 0
              · have hw := hide (show wordB z = false from by simp [wordB]; omega)
                go_wp2
                go_ret
                exact ⟨ret_bool (by rw [HZ.out, HE.out hw.out]), rfl⟩
              · by_cases hz1 : 4294967295 < z
                · have hw := hide (show wordB z = false from by simp [wordB]; omega)
                  go_wp2
                  go_ret
                  exact ⟨ret_bool (by rw [HZ.out, HE.out hw.out]), rfl⟩
                · have hw := hide (show wordB z = true from by simp [wordB]; omega)
                  go_wp2
                  go_round
                  case rel => exact ⟨k + 1, by omega, by go_num, by rw [HT.out, HK.out, hw.out]; rfl⟩
                  case measure => simp [intOf]; omega
            · have ek : k = ws.length := by omega
              have HE := hide (show okTo ws ws.length = true from by rw [← ek]; exact HK.out)
              clear ek
              go_wp2
              go_ret
              exact ⟨ret_bool (by rw [HZ.out, HE.out]), rfl⟩
        · have HR := hide (show okTo ws ws.length = false from HF.out 1 (by omega) (by simp [headB]; intro _; exact h4))
          have hq : (ws.getD 1 0 != 1) = true := by simpa using h4
          rw [h3] at c0
          generalize ws.getD 1 0 = z1 at c1 hq
          clear h3 h4 hcell h
          go_enter Tryz.func23, Tryz.ntmps23
          go_wp2
          go_ret
          exact ⟨ret_bool (by rw [HZ.out, HR.out]), rfl⟩
      · have HR := hide (show okTo ws ws.length = false from HF.out 0 (by omega) (by simp [headB]; intro _; exact h3))
        have hq : (ws.getD 0 0 != 1) = true := by simpa using h3
        generalize ws.getD 0 0 = z0 at c0 hq
        clear h3 hcell h c1
        go_enter Tryz.func23, Tryz.ntmps23
        go_wp2
        go_ret
        exact ⟨ret_bool (by rw [HZ.out, HR.out]), rfl⟩
end Go.Proofs.YtkbbnflblkkepaaGreatDoor

namespace Go.Proofs.YtkbbnflblkkepaaGreatDoor
set_option linter.unusedVariables false
set_option linter.unusedSimpArgs false
open Go.RowKit

set_option maxRecDepth 100000 in
set_option maxHeartbeats 1000000 in
theorem wordsOfG_any (v : Value) (bs : List Int) (n : Nat) (w : World) (h : Rd .u8 w v bs) (hbd : ∀ z ∈ bs, 0 ≤ z ∧ z < 256) (hn : bs.length / 4 = n) (hn2 : n ≤ 65536) :
    Calls Tryz.prog 49 #[v] w fun e w' => ∃ v', e = .returned v' ∧ w'.ownsRow w.heap.size 3 1 v' n ((decTo bs n).map (Value.int .i64)) ∧ Below w.heap.size w w' := by
  obtain ⟨i0, hi, hz0, hz1, hz2⟩ := info_parts infoI64
  have hm := h.len
  unfold maxLen at hm
  have HB := hide hbd
  have HR := hide h
  have HN := hide hn
  have HL := hide (show (bs.length : Int) / 4 = (n : Int) from by omega)
  clear hbd
  obtain ⟨a, cap, rfl, _⟩ := h
  generalize hbl : bs.length = bl at *
  have HBL := hide hbl
  have hbl2 : bl ≤ 262147 := by omega
  clear hbl hn
  go_enter Tryz.func49, Tryz.ntmps49
  go_wp2_with (refine wpList_make_full _ rfl _ _ 23 rfl w.heap.size 3 i0 (.int .i64 0) 1 Tryz.underlying23 hi hz0 hz1 .i64 .i64 n n n (by rw [← HL.out]; rfl) (by rw [← HL.out]; rfl) rfl rfl (by rw [hz2]; omega) (by unfold maxLen; omega) (Nat.le_refl _) ?_; intro w3 hown3 hgr3; rw [made_one _ _ rfl] at hown3)
  have hb3 : Below w.heap.size w w3 := (Below.refl _ _).grown hgr3 (Nat.le_refl _) (fun k e => by cases e)
  go_loopw [12] (fun i wr => ∃ k : Nat, k ≤ n ∧ i = .int .i64 k ∧ Below w.heap.size w wr ∧ wr.ownsRow w.heap.size 3 1 (.slice (some ⟨w.heap.size, 0, none⟩) n n) n ((decTo bs k).map (Value.int .i64) ++ List.replicate (n - k) (.int .i64 0))) (fun i _ => n - (intOf i).toNat)
  case atStart => exact ⟨0, by omega, rfl, hb3, by simpa [decTo] using hown3⟩
  case round =>
    clear hown3 hgr3 hb3
    obtain ⟨k, hk, rfl, hb, hown⟩ := hrel
    by_cases hk8 : k < n
    · have hk4 : 4 * k + 4 ≤ bs.length := by have := HN.out; rw [HBL.out]; omega
      obtain ⟨sa, sc, hsr, hsl⟩ := slice_pieceWL HR.out (4 * k) (by omega)
      have hF := four_of bs k hk4
      obtain ⟨b2, off2, c2, hsv, hb2, _, _, hcell⟩ := hsr.partsC (by rw [List.length_drop]; omega)
      injection hsv with e1 e2 e3
      subst e1
      subst e3
      have cellj : ∀ j, j < 4 → w.cell? ⟨b2, off2 + j, none⟩ = some (.int .u8 (bs.getD (4 * k + j) 0)) := fun j hj => by
        rw [hcell j (by rw [List.length_drop]; omega)]
        simp [List.getD, List.getElem?_drop]
      have hbx : ∀ j, j < 4 → ∃ x : Nat, bs.getD (4 * k + j) 0 = (x : Int) ∧ x < 256 := fun j hj => by
        have hl : 4 * k + j < bs.length := by omega
        have := HB.out _ (List.getElem_mem hl)
        exact ⟨(bs.getD (4 * k + j) 0).toNat, by simp [List.getD, hl]; omega, by simp [List.getD, hl]; omega⟩
      obtain ⟨x0, hx0, l0⟩ := hbx 0 (by omega)
      obtain ⟨x1, hx1, l1⟩ := hbx 1 (by omega)
      obtain ⟨x2, hx2, l2⟩ := hbx 2 (by omega)
      obtain ⟨x3, hx3, l3⟩ := hbx 3 (by omega)
      have HW := hide (show wordAt bs k = ((x0 + 256 * (x1 + 256 * (x2 + 256 * x3)) : Nat) : Int) from by
        unfold wordAt
        rw [hF, unle4, show bs.getD (4 * k) 0 = (x0 : Int) from hx0, hx1, hx2, hx3]
        simp only [Int.toNat_natCast])
      have HRg := hide (show wr.rangeAt b2 off2 [.int .u8 (x0 : Int), .int .u8 (x1 : Int), .int .u8 (x2 : Int), .int .u8 (x3 : Int)] from by
        intro j y hj
        rw [hb.cell (p := ⟨b2, off2 + j, none⟩) hb2]
        match j, hj with
        | 0, hj => rw [cellj 0 (by omega), hx0]; simpa using hj
        | 1, hj => rw [cellj 1 (by omega), hx1]; simpa using hj
        | 2, hj => rw [cellj 2 (by omega), hx2]; simpa using hj
        | 3, hj => rw [cellj 3 (by omega), hx3]; simpa using hj
        | n + 4, hj => simp at hj)
      have harr : ∀ (wx : World), (Instr.arrayAt 169 (.slice (some ⟨b2, off2, none⟩) (bs.length - 4 * k) sc)).run Tryz.prog wx = .ok (.pointer (some ⟨b2, off2, none⟩)) wx := fun wx => run_arrayAt (w := wx) 169 5 4 _ _ _ Tryz.underlying169 (by omega)
      rw [HBL.out] at hsl harr
      have hsl2 : ∀ (wx : World), (Instr.slice 22 (.slice a bl cap) (some (.int .i64 ((k : Int) * 4))) none none).run Tryz.prog wx = .ok (.slice (some ⟨b2, off2, none⟩) (bl - 4 * k) sc) wx := fun wx => by
        have := hsl wx
        rw [show ((4 * k : Nat) : Int) = (k : Int) * 4 by omega] at this
        exact this
      obtain ⟨W3, hW3⟩ : ∃ W3, W3 = (wr.alloc (.cells #[.int .u8 0, .int .u8 0, .int .u8 0, .int .u8 0] 169)).setRow wr.heap.size #[.int .u8 (x0 : Int), .int .u8 (x1 : Int), .int .u8 (x2 : Int), .int .u8 (x3 : Int)] := ⟨_, rfl⟩
      have B3 := hide (show Below wr.heap.size wr W3 from by rw [hW3]; exact below_setRow ((Below.refl _ _).alloc (Nat.le_refl _) _) (Nat.le_refl _) _)
      have K3 := hide (show Blk W3 wr.heap.size #[.int .u8 (x0 : Int), .int .u8 (x1 : Int), .int .u8 (x2 : Int), .int .u8 (x3 : Int)] 169 from by rw [hW3]; exact (Blk.new wr _ 169).row _)
      have KN := hide (Blk.new wr #[.int .u8 0, .int .u8 0, .int .u8 0, .int .u8 0] 169)
      have cb0 := (K3.out.cell 0).trans (show _ = some (.int .u8 (x0 : Int)) from rfl)
      have cb1 := (K3.out.cell 1).trans (show _ = some (.int .u8 (x1 : Int)) from rfl)
      have cb2 := (K3.out.cell 2).trans (show _ = some (.int .u8 (x2 : Int)) from rfl)
      have cb3 := (K3.out.cell 3).trans (show _ = some (.int .u8 (x3 : Int)) from rfl)
      have ho4 := own_below hown B3.out
      have hst := ho4.stored k (.int .i64 ((x0 + 256 * (x1 + 256 * (x2 + 256 * x3)) : Nat) : Int))
      have hfr := ho4.frozenAt k
      obtain ⟨old, hco⟩ : ∃ u, W3.cell? ⟨w.heap.size, k, none⟩ = some u := by
        rw [ho4.cellAt k (by omega)]
        exact ⟨_, List.getElem?_eq_getElem (by simp [decTo_len]; omega)⟩
      have hor := or4W x0 x1 x2 x3 l0 l1 l2 l3
      have HX := hide (show Below w.heap.size w (W3.setCell ⟨w.heap.size, k, none⟩ (.int .i64 ((x0 + 256 * (x1 + 256 * (x2 + 256 * x3)) : Nat) : Int))) ∧ (W3.setCell ⟨w.heap.size, k, none⟩ (.int .i64 ((x0 + 256 * (x1 + 256 * (x2 + 256 * x3)) : Nat) : Int))).ownsRow w.heap.size 3 1 (.slice (some ⟨w.heap.size, 0, none⟩) n n) n ((decTo bs (k + 1)).map (Value.int .i64) ++ List.replicate (n - (k + 1)) (.int .i64 0)) from by
        refine ⟨(hb.trans (B3.out.mono hb.size)).setCell (p := ⟨w.heap.size, k, none⟩) (Nat.le_refl _) _, ?_⟩
        rw [← set_dec bs k n hk8 _ (by rw [HW.out])]
        exact hst.1)
      have HW3 := hide hW3
      clear hW3 hst ho4 hown hsl hsr hcell cellj hbx hF hx0 hx1 hx2 hx3 hb
      go_upto_region 6 with (first
        | (refine wpList_load_mid rfl 169 _ rfl b2 off2 rfl [.int .u8 (x0 : Int), .int .u8 (x1 : Int), .int .u8 (x2 : Int), .int .u8 (x3 : Int)] _ HRg.out Tryz.underlying169 rfl infoA4 ?_)
        | (refine wpList_store_row rfl 169 _ _ rfl wr.heap.size #[.int .u8 (x0 : Int), .int .u8 (x1 : Int), .int .u8 (x2 : Int), .int .u8 (x3 : Int)] rfl rfl 169 #[.int .u8 0, .int .u8 0, .int .u8 0, .int .u8 0] KN.out infoA4 rfl (by simp [Value.oneCell']) ?_)
        | fail)
      rw [← HW3.out]
      go_wp2
      go_roundw
      case rel => exact ⟨k + 1, by omega, by go_num, HX.out.1, HX.out.2⟩
      case measure => simp [intOf]; omega
    · have e8 : k = n := by omega
      subst e8
      go_wp2
      go_ret
      refine ⟨_, rfl, ?_, hb⟩
      rw [Nat.sub_self, List.replicate_zero, List.append_nil] at hown
      exact hown
/-- The words of a tree that is a map. -/
def mwW (zs : List Int) (s : Int) (ds : List Int) (p q : Int) : List Int := decTo (trB zs s ds p q) ((trB zs s ds p q).length / 4)
set_option maxRecDepth 100000 in
set_option maxHeartbeats 2000000 in
theorem readMap_any (img : Value) (zs : List Int) (s : Int) (ds : List Int) (p q : Int) (w : World) (h : Rd .u8 w img zs) (hz : zs.length ≤ 1048576) (hbd : ∀ z ∈ zs, 0 ≤ z ∧ z < 256) (hd : ds.length = 12) (hbl : (trB zs s ds p q).length ≤ 262144) (hbb : ∀ z ∈ trB zs s ds p q, 0 ≤ z ∧ z < 256) :
    Calls Tryz.prog 30 #[img, .agg (cellsI (rootI s ds p q))] w fun e w' => ∃ a n c ev, e = .returned (.tuple #[.slice a n c, ev]) ∧ ((trC zs s ds p q ≠ 0 ∧ ∃ m, Flt w' 0 m ev (trC zs s ds p q)) ∨ (trC zs s ds p q = 0 ∧ w'.ownsRow w.heap.size 3 1 (.slice a n c) (mwW zs s ds p q).length ((mwW zs s ds p q).map (Value.int .i64)) ∧ FaultIs w' 0 (rightM (mwW zs s ds p q)) ev 21)) ∧ Below w.heap.size w w' := by
  obtain ⟨sa, sc, rfl⟩ := rd_shapeT h
  have hRl := rootI_len s ds p q hd
  have HZ := hide (show (cellsI (rootI s ds p q)).size = 15 from by rw [cellsI_size]; exact hRl)
  have HR := hide (And.intro h (And.intro hz (And.intro hbd hd)))
  have HBl := hide (And.intro hbl hbb)
  obtain ⟨RC, hRC⟩ : ∃ RC, RC = cellsI (rootI s ds p q) := ⟨_, rfl⟩
  rw [← hRC] at HZ ⊢
  obtain ⟨W1, hW1⟩ : ∃ W1, W1 = w.alloc (.cells RC 34) := ⟨_, rfl⟩
  have B1 := hide (show Below w.heap.size w W1 from by rw [hW1]; exact (Below.refl _ _).alloc (Nat.le_refl _) _)
  have K1 := hide (show Blk W1 w.heap.size RC 34 from by rw [hW1]; exact Blk.new w _ _)
  have HRC := hide hRC
  have HW1 := hide hW1
  clear h hz hbd hd hbl hbb hRl hRC hW1
  go_enter Tryz.func30, Tryz.ntmps30
  go_upto_region 1 with fail
  rw [← HW1.out]
  go_upto_region 2 with (first
    | (refine wpList_load_row rfl 34 _ rfl w.heap.size rfl 34 RC (0, 0) _ K1.out Tryz.underlying34 rfl (by rw [HZ.out]; exact info15) ?_)
    | (go_at_call 48; rw [HRC.out]; refine (readTree_any _ zs s ds p q _ (HR.out.1.below B1.out) HR.out.2.1 HR.out.2.2.1 HR.out.2.2.2).mono ?_; rintro e w2 ⟨ta, tn, tc, ev, rfl, hcase, b2⟩; have HC := hide hcase; have B2 := hide b2; clear hcase b2))
  have B2w := hide (show Below w.heap.size w w2 from B1.out.trans (B2.out.mono B1.out.size))
  rcases HC.out with ⟨hc0, rfl, ho⟩ | ⟨hc0, m, hfl⟩
  · have HO := hide ho
    obtain ⟨bs, hbs⟩ : ∃ bs, bs = trB zs s ds p q := ⟨_, rfl⟩
    have HRd := hide (show Rd .u8 w2 (.slice ta tn tc) bs from by rw [hbs]; exact Rd.own ho)
    have HBb := hide (show bs.length ≤ 262144 ∧ ∀ z ∈ bs, 0 ≤ z ∧ z < 256 from by rw [hbs]; exact HBl.out)
    obtain ⟨ws, hws⟩ : ∃ ws, ws = decTo bs (bs.length / 4) := ⟨_, rfl⟩
    have HWs := hide (show ws = mwW zs s ds p q ∧ ws.length = bs.length / 4 from ⟨by rw [hws, hbs]; rfl, by rw [hws, decTo_len]⟩)
    have HC0 := hide hc0
    clear ho HO HC hc0
    obtain ⟨wn, hwn⟩ : ∃ wn, wn = bs.length / 4 := ⟨_, rfl⟩
    rw [← hwn] at hws HWs
    have HWd := hide hws
    have HWn := hide hwn
    have HWb := hide (show wn ≤ 65536 from by have := HBb.out.1; omega)
    clear hws hbs hwn
    go_upto_region 5 with (first
      | (go_at_call 49; refine (wordsOfG_any (.slice ta tn tc) bs wn _ HRd.out HBb.out.2 HWn.out.symm HWb.out).mono ?_; rintro e w3 ⟨v3, rfl, o3, b3⟩; rw [← HWd.out] at o3; obtain ⟨va, vc, rfl⟩ := own_shape5 o3; have O3 := hide (And.intro o3 b3); clear o3 b3))
    have HO3 := hide (show w3.ownsRow w2.heap.size 3 1 (.slice va wn vc) ws.length (ws.map (Value.int .i64)) from by rw [HWs.out.2]; exact O3.out.1)
    obtain ⟨W4, hW4⟩ : ∃ W4, W4 = w3.alloc (.cells #[.int .i64 21, .nilIface] 99) := ⟨_, rfl⟩
    have B4 := hide (show Below w3.heap.size w3 W4 from by rw [hW4]; exact (Below.refl _ _).alloc (Nat.le_refl _) _)
    have CK := hide (show Ck W4 w3.heap.size (w3.heap.size + 1) 21 true from by rw [hW4]; exact Ck.fresh w3 21 _)
    have HS4 := hide (show W4.heap.size = w3.heap.size + 1 from by rw [hW4]; simp)
    have B34 := hide (show Below w2.heap.size w2 W4 from O3.out.2.trans (B4.out.mono O3.out.2.size))
    have HRw := hide (show Rd .i64 W4 (.slice va wn vc) ws from (Rd.own HO3.out).below B4.out)
    go_upto_region 6 with fail
    rw [← hW4]
    clear hW4
    go_wp2_with (go_at_call 51; fail)
    refine (mapFault_any _ ws _ HRw.out).mono ?_
    rintro e w5 ⟨ev5, rfl, f5, b5⟩
    have F5 := hide b5
    clear b5
    rcases f5 with ⟨hr, rfl⟩ | ⟨hr, m5, hfl5⟩
    · have HRi := hide hr
      clear hr
      go_wp2_with (go_at_call 50; fail)
      refine (need_any w3.heap.size (w3.heap.size + 1) _ 21 true true _ (CK.out.below F5.out) (by omega) (by have := F5.out.size; have := HS4.out; omega)).mono ?_
      rintro e w6 ⟨rfl, ck6, t6⟩
      rw [Bool.true_and] at ck6
      have BW5 : Below w.heap.size w w5 := B2w.out.trans ((B34.out.trans (F5.out.mono B34.out.size)).mono B2w.out.size)
      have T6 := hide (show Below w.heap.size w w6 from t6.under BW5 (Nat.le_trans B2w.out.size O3.out.2.size) (BW5.size))
      have OW := hide (show w6.ownsRow w.heap.size 3 1 (.slice va wn vc) ws.length (ws.map (Value.int .i64)) from own_mono ((own_below HO3.out (B4.out.trans (F5.out.mono B4.out.size))).kept t6.1 (.inr (fun e => by have h1 := (HO3.out.lt w3.heap.size e).2; omega))) B2w.out.size)
      obtain ⟨ev6, ce6, fe6⟩ := ck6.fault
      have HFe := hide fe6
      have CE6 := hide ce6
      clear ck6 t6 fe6 BW5 ce6
      go_wp2_with fail
      refine wp_region_noPanic ?_
      refine wp_region_held_drew (S := fun w' => w'.cell? ⟨w3.heap.size, 1, none⟩ = some ev6) (by kernel_rfl) CE6.out (fun hH => ?_)
      refine wpAnyH_take (i := 0) (oi := _) (v := .slice va wn vc) rfl (by kernel_rfl) (by kernel_rfl) (by kernel_rfl) (fun _ _ _ h => h) (Or.inl ⟨by rfl, fun w' hw' => by go_simp⟩) hH ?_
      try simp only [Act.put, List.getElem_toArray, List.getElem_cons_zero, List.getElem_cons_succ, List.setIfInBounds_toArray, List.set_cons_zero, List.set_cons_succ]
      refine wpAnyH_take (i := 1) (oi := _) (v := .pointer (some ⟨w3.heap.size, 1, none⟩)) rfl (by kernel_rfl) (by kernel_rfl) (by kernel_rfl) (fun _ _ _ h => h) (Or.inl ⟨by rfl, fun w' hw' => by go_simp⟩) hH ?_
      try simp only [Act.put, List.getElem_toArray, List.getElem_cons_zero, List.getElem_cons_succ, List.setIfInBounds_toArray, List.set_cons_zero, List.set_cons_succ]
      refine wpAnyH_take (i := 2) (oi := _) (v := ev6) rfl (by kernel_rfl) (by kernel_rfl) (by kernel_rfl) (fun _ _ _ h => h) (Or.inl ⟨by rfl, fun w' hw' => by go_simp⟩) hH ?_
      try simp only [Act.put, List.getElem_toArray, List.getElem_cons_zero, List.getElem_cons_succ, List.setIfInBounds_toArray, List.set_cons_zero, List.set_cons_succ]
      refine wpAnyH_take (i := 3) (oi := _) (v := .slice va wn vc) rfl (by kernel_rfl) (by kernel_rfl) (by kernel_rfl) (fun _ _ _ h => h) (Or.inl ⟨by rfl, fun w' hw' => by go_simp⟩) hH ?_
      try simp only [Act.put, List.getElem_toArray, List.getElem_cons_zero, List.getElem_cons_succ, List.setIfInBounds_toArray, List.set_cons_zero, List.set_cons_succ]
      refine wpAnyH_take (i := 4) (oi := _) (v := ev6) rfl (by kernel_rfl) (by kernel_rfl) (by kernel_rfl) (fun _ _ _ h => h) (Or.inl ⟨by rfl, fun w' hw' => by go_simp⟩) hH ?_
      try simp only [Act.put, List.getElem_toArray, List.getElem_cons_zero, List.getElem_cons_succ, List.setIfInBounds_toArray, List.set_cons_zero, List.set_cons_succ]
      refine wpAnyH_done (by kernel_rfl) (NoPanic.normal ?_) _
      clear hH
      go_wp2
      go_ret2
      refine ⟨_, _, _, _, rfl, .inr ⟨HC0.out, ?_, ?_⟩, T6.out.drew⟩
      · rw [← HWs.out.1]
        exact OW.out
      · rw [← HWs.out.1, HRi.out]
        rcases HFe.out with ⟨h1, h2⟩ | ⟨h1, m6, h2⟩
        · exact .inl ⟨h1, h2⟩
        · exact .inr ⟨h1, m6, (h2.mono (Nat.zero_le _)).below ((Below.refl _ _).drew)⟩
    · have HRi := hide hr
      obtain ⟨t5, x5, rfl⟩ := hfl5.iface
      clear hr hfl5
      go_wp2_with (go_at_call 50; fail)
      refine (need_any w3.heap.size (w3.heap.size + 1) _ 21 true false _ (CK.out.below F5.out) (by omega) (by have := F5.out.size; have := HS4.out; omega)).mono ?_
      rintro e w6 ⟨rfl, ck6, t6⟩
      rw [Bool.true_and] at ck6
      have BW5 : Below w.heap.size w w5 := B2w.out.trans ((B34.out.trans (F5.out.mono B34.out.size)).mono B2w.out.size)
      have T6 := hide (show Below w.heap.size w w6 from t6.under BW5 (Nat.le_trans B2w.out.size O3.out.2.size) (BW5.size))
      have OW := hide (show w6.ownsRow w.heap.size 3 1 (.slice va wn vc) ws.length (ws.map (Value.int .i64)) from own_mono ((own_below HO3.out (B4.out.trans (F5.out.mono B4.out.size))).kept t6.1 (.inr (fun e => by have h1 := (HO3.out.lt w3.heap.size e).2; omega))) B2w.out.size)
      obtain ⟨ev6, ce6, fe6⟩ := ck6.fault
      have HFe := hide fe6
      have CE6 := hide ce6
      clear ck6 t6 fe6 BW5 ce6
      go_wp2_with fail
      refine wp_region_noPanic ?_
      refine wp_region_held_drew (S := fun w' => w'.cell? ⟨w3.heap.size, 1, none⟩ = some ev6) (by kernel_rfl) CE6.out (fun hH => ?_)
      refine wpAnyH_take (i := 0) (oi := _) (v := .slice va wn vc) rfl (by kernel_rfl) (by kernel_rfl) (by kernel_rfl) (fun _ _ _ h => h) (Or.inl ⟨by rfl, fun w' hw' => by go_simp⟩) hH ?_
      try simp only [Act.put, List.getElem_toArray, List.getElem_cons_zero, List.getElem_cons_succ, List.setIfInBounds_toArray, List.set_cons_zero, List.set_cons_succ]
      refine wpAnyH_take (i := 1) (oi := _) (v := .pointer (some ⟨w3.heap.size, 1, none⟩)) rfl (by kernel_rfl) (by kernel_rfl) (by kernel_rfl) (fun _ _ _ h => h) (Or.inl ⟨by rfl, fun w' hw' => by go_simp⟩) hH ?_
      try simp only [Act.put, List.getElem_toArray, List.getElem_cons_zero, List.getElem_cons_succ, List.setIfInBounds_toArray, List.set_cons_zero, List.set_cons_succ]
      refine wpAnyH_take (i := 2) (oi := _) (v := ev6) rfl (by kernel_rfl) (by kernel_rfl) (by kernel_rfl) (fun _ _ _ h => h) (Or.inl ⟨by rfl, fun w' hw' => by go_simp⟩) hH ?_
      try simp only [Act.put, List.getElem_toArray, List.getElem_cons_zero, List.getElem_cons_succ, List.setIfInBounds_toArray, List.set_cons_zero, List.set_cons_succ]
      refine wpAnyH_take (i := 3) (oi := _) (v := .slice va wn vc) rfl (by kernel_rfl) (by kernel_rfl) (by kernel_rfl) (fun _ _ _ h => h) (Or.inl ⟨by rfl, fun w' hw' => by go_simp⟩) hH ?_
      try simp only [Act.put, List.getElem_toArray, List.getElem_cons_zero, List.getElem_cons_succ, List.setIfInBounds_toArray, List.set_cons_zero, List.set_cons_succ]
      refine wpAnyH_take (i := 4) (oi := _) (v := ev6) rfl (by kernel_rfl) (by kernel_rfl) (by kernel_rfl) (fun _ _ _ h => h) (Or.inl ⟨by rfl, fun w' hw' => by go_simp⟩) hH ?_
      try simp only [Act.put, List.getElem_toArray, List.getElem_cons_zero, List.getElem_cons_succ, List.setIfInBounds_toArray, List.set_cons_zero, List.set_cons_succ]
      refine wpAnyH_done (by kernel_rfl) (NoPanic.normal ?_) _
      clear hH
      go_wp2
      go_ret2
      refine ⟨_, _, _, _, rfl, .inr ⟨HC0.out, ?_, ?_⟩, T6.out.drew⟩
      · rw [← HWs.out.1]
        exact OW.out
      · rw [← HWs.out.1, HRi.out]
        rcases HFe.out with ⟨h1, h2⟩ | ⟨h1, m6, h2⟩
        · exact .inl ⟨h1, h2⟩
        · exact .inr ⟨h1, m6, (h2.mono (Nat.zero_le _)).below ((Below.refl _ _).drew)⟩
  · obtain ⟨t', x', rfl⟩ := hfl.iface
    have HFl := hide (And.intro hc0 hfl)
    clear hfl hc0 HC
    go_wp2
    go_ret2
    exact ⟨_, _, _, _, rfl, .inl ⟨HFl.out.1, m, HFl.out.2⟩, B2w.out⟩
end Go.Proofs.YtkbbnflblkkepaaGreatDoor
