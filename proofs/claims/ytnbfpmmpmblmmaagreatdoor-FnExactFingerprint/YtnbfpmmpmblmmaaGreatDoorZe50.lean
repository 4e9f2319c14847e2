/- Fingerprint of the program and of the model. -/
import Derived.Test.YtnbfpmmpmblmmaaGreatDoorZe49
import Derived.Test.YtnbfpmmpmblmmaaGreatDoorZe46
namespace Go.Proofs.YtnbfpmmpmblmmaaGreatDoor
set_option linter.unusedVariables false
set_option linter.unusedSimpArgs false
open Go.RowKit

/-- The answer of Fingerprint. -/
def FpRs (C : Int) (L : List Nd) (w w' : World) (e : Ending) : Prop := ∃ p : Int × Int, e = .returned (.tuple #[.int .u32 p.1, .int .i64 p.2]) ∧ (RightS C L → p = ((Crc.crc (prI L) : Int), 0)) ∧ (¬ RightS C L → p = (0, 21)) ∧ Below w.heap.size w w'
theorem fp_same {P : Prop} {α : Type} {p q x y : α} (h1 : P → p = x) (h2 : ¬ P → p = y) (h3 : P → q = x) (h4 : ¬ P → q = y) : p = q := by
  by_cases h : P
  · rw [h1 h, h3 h]
  · rw [h2 h, h4 h]
set_option maxRecDepth 100000 in
set_option maxHeartbeats 4000000 in
theorem specFp_any (C : Int) (v : Value) (L : List Nd) (vs : List Value) (w : World) (h : RdN w 9 v (L.map ndE) vs) (hL : L.length ≤ 1048576) (hbd : ∀ i, i < L.length → ∀ z ∈ (ndAt L i).d, 0 ≤ z ∧ z < 256) :
    Calls Tryz.prog 5 #[.agg #[.int .i64 C, v]] w fun e w' => FpRs C L w w' e := by
  obtain ⟨a, cap, rfl⟩ : ∃ a cap, v = .slice a L.length cap := by obtain ⟨a, cap, e, _⟩ := h.row; exact ⟨a, cap, by simpa using e⟩
  obtain ⟨N, hN⟩ : ∃ N, N = L.length := ⟨_, rfl⟩
  rw [← hN] at h ⊢
  have H := hide (And.intro h (And.intro hL hbd))
  clear h hL hbd hN
  go_enter Tryz.func5, Tryz.ntmps5
  have H0 := hide ((Below.refl w.heap.size w).alloc (Nat.le_refl _) (.cells #[.int .i64 C, .slice a N cap] 31))
  have HBk := hide (Blk.new w #[.int .i64 C, .slice a N cap] 31)
  go_wp2_with (first | (refine wpList_load_row rfl 31 _ rfl w.heap.size rfl 31 #[.int .i64 C, .slice a N cap] (0, 0) _ HBk.out Tryz.underlying31 rfl infoStP ?_) | (go_at_call 10; fail))
  refine (right_any C _ L vs _ (H.out.1.below H0.out) H.out.2.1 H.out.2.2).mono ?_
  rintro e w1 ⟨b, rfl, hb, b1⟩
  have K := hide (And.intro hb (And.intro (H0.out.trans (b1.mono (by simp))) (HBk.out.below b1 HBk.out.lt)))
  clear hb b1 H0 HBk
  cases b
  · go_wp2
    go_ret2
    exact ⟨(0, 21), rfl, fun hr => absurd (K.out.1.2 hr) (by decide), fun _ => rfl, K.out.2.1⟩
  · have HRr := hide (show RightS C L from by simpa using K.out.1)
    go_wp2_with (first | (refine wpList_load_row rfl 31 _ rfl w.heap.size rfl 31 #[.int .i64 C, .slice a N cap] (0, 0) _ K.out.2.2 Tryz.underlying31 rfl infoStP ?_) | (go_at_call 11; fail))
    refine (l14Print_any C (.slice a N cap) L vs _ (H.out.1.below K.out.2.1) HRr.out H.out.2.2).mono ?_
    rintro e w2 ⟨rfl, b2⟩
    have B2 := hide (K.out.2.1.trans (b2.mono K.out.2.1.size))
    clear b2
    go_wp2
    go_ret2
    exact ⟨(_, 0), rfl, fun _ => rfl, fun hn => absurd HRr.out hn, B2.out⟩
set_option maxRecDepth 100000 in
set_option maxHeartbeats 4000000 in
theorem implFp_any (C : Int) (v : Value) (L : List Nd) (vs : List Value) (w : World) (h : RdN w 9 v (L.map ndE) vs) (hT : totN L ≤ 1099511627776) (hL : L.length ≤ 1048576) (hbd : ∀ i, i < L.length → ∀ z ∈ (ndAt L i).d, 0 ≤ z ∧ z < 256) (hnil : NilV vs) (hg : ErrT w) :
    Calls Tryz.prog 7 #[.agg #[.int .i64 C, v]] w fun e w' => FpRs C L w w' e := by
  obtain ⟨a, cap, rfl⟩ : ∃ a cap, v = .slice a L.length cap := by obtain ⟨a, cap, e, _⟩ := h.row; exact ⟨a, cap, by simpa using e⟩
  obtain ⟨N, hN⟩ : ∃ N, N = L.length := ⟨_, rfl⟩
  have HNN := hide hN
  rw [← hN] at h ⊢
  have H := hide (And.intro h (And.intro hT (And.intro hL (And.intro hbd hnil))))
  have HG := hide hg
  clear h hL hbd hN hT hnil hg
  go_enter Tryz.func7, Tryz.ntmps7
  have H0 := hide ((Below.refl w.heap.size w).alloc (Nat.le_refl _) (.cells #[.int .i64 C, .slice a N cap] 31))
  have HBk := hide (Blk.new w #[.int .i64 C, .slice a N cap] 31)
  go_wp2_with (first | (refine wpList_load_row rfl 31 _ rfl w.heap.size rfl 31 #[.int .i64 C, .slice a N cap] (0, 0) _ HBk.out Tryz.underlying31 rfl infoStP ?_) | (go_at_call 13; fail))
  refine (openState_any C _ L vs _ (H.out.1.below H0.out) H.out.2.1 H.out.2.2.1 H.out.2.2.2.1 H.out.2.2.2.2).mono ?_
  rintro e w1 ⟨pa, ok, ev, rfl, hok, hf, hb, hop⟩
  have B1 := hide (H0.out.trans (hb.mono (by simp)))
  have HK := hide hok
  have HO := hide hop
  clear hok hb hop
  rcases hf with ⟨hk, rfl⟩ | ⟨hk, m, hF⟩
  · subst hk
    obtain ⟨bs, bn, ps, rfl, ho⟩ := HO.out rfl
    have HP := hide ho
    have HRr := hide (HK.out.1 rfl)
    clear ho HO HK
    go_wp2_with (first | (go_at_call 15; fail) | fail)
    refine (fingerprint_any C L ps bs bn w1 HP.out HRr.out H.out.2.2.2.1).mono ?_
    rintro e w2 ⟨rfl, b2⟩
    have B2 := hide (B1.out.trans (b2.mono B1.out.size))
    clear b2
    go_wp2
    go_ret2
    exact ⟨(_, 0), rfl, fun _ => rfl, fun hn => absurd HRr.out hn, B2.out⟩
  · subst hk
    obtain ⟨t', x', rfl⟩ := hF.iface
    have HF := hide hF
    clear hF
    go_wp2_with (go_at_call 14; fail)
    refine (codeOf_any m _ 21 _ _ HF.out (HG.out.below B1.out)).mono ?_
    rintro e w2 ⟨rfl, b2⟩
    have B2 := hide (B1.out.trans (b2.mono B1.out.size))
    clear b2
    go_wp2
    go_ret2
    exact ⟨(0, 21), rfl, fun hr => absurd (HK.out.2 hr) (by decide), fun _ => rfl, B2.out⟩
end Go.Proofs.YtnbfpmmpmblmmaaGreatDoor
