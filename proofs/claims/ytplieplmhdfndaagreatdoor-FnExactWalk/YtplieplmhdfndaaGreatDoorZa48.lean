/- Walk and WalkDir of the program. Walk and WalkDir of the model. -/
import Derived.Test.YtplieplmhdfndaaGreatDoorZa46
import Derived.Test.YtplieplmhdfndaaGreatDoorZa41
import Derived.Test.YtplieplmhdfndaaGreatDoorZa47
namespace Go.Proofs.YtplieplmhdfndaaGreatDoor
set_option linter.unusedVariables false
set_option linter.unusedSimpArgs false
open Go.RowKit

/-- The answer of Walk. -/
def WkRs (C : Int) (L : List Nd) (uid gid : Int) (fw : Bool) (s : ByteArray) (w w' : World) (e : Ending) : Prop := ∃ p : Int × Int, e = .returned (.tuple #[.int .i64 p.1, .int .i64 p.2]) ∧ (RightS C L → p = wpR L uid gid fw s) ∧ (¬ RightS C L → p = (0, 21)) ∧ Below w.heap.size w w'
/-- The answer of WalkDir. -/
def WdRs (C : Int) (L : List Nd) (uid gid : Int) (s : ByteArray) (w w' : World) (e : Ending) : Prop := ∃ p : Int × ByteArray × Int, e = .returned (.tuple #[.int .i64 p.1, .string p.2.1, .int .i64 p.2.2]) ∧ (RightS C L → p = wlR L uid gid s) ∧ (¬ RightS C L → p = (0, ⟨#[]⟩, 21)) ∧ Below w.heap.size w w'
set_option maxRecDepth 100000 in
set_option maxHeartbeats 4000000 in
theorem implWk_any (C : Int) (v : Value) (L : List Nd) (vs : List Value) (w : World) (h : RdN w 9 v (L.map ndE) vs) (hT : totN L ≤ 1099511627776) (hL : L.length ≤ 1048576) (hbd : ∀ i, i < L.length → ∀ z ∈ (ndAt L i).d, 0 ≤ z ∧ z < 256) (hnil : NilV vs) (hg : ErrT w) (uid gid : Int) (fw : Bool) (s : ByteArray) (hm : s.size ≤ 9223372036854775807) :
    Calls Tryz.prog 20 #[.agg #[.int .i64 C, v], .int .i64 uid, .int .i64 gid, .string s, .bool fw] w fun e w' => WkRs C L uid gid fw s w w' e := by
  obtain ⟨a, cap, rfl⟩ : ∃ a cap, v = .slice a L.length cap := by obtain ⟨a, cap, e, _⟩ := h.row; exact ⟨a, cap, by simpa using e⟩
  obtain ⟨N, hN⟩ : ∃ N, N = L.length := ⟨_, rfl⟩
  rw [← hN] at h ⊢
  have H := hide (And.intro h (And.intro hT (And.intro hL (And.intro hbd hnil))))
  have HG := hide hg
  clear h hL hbd hN hT hnil hg
  go_enter Tryz.func20, Tryz.ntmps20
  have H0 := hide ((Below.refl w.heap.size w).alloc (Nat.le_refl _) (.cells #[.int .i64 C, .slice a N cap] 29))
  have HBk := hide (Blk.new w #[.int .i64 C, .slice a N cap] 29)
  go_wp2_with (first | (refine wpList_load_row rfl 29 _ rfl w.heap.size rfl 29 #[.int .i64 C, .slice a N cap] (0, 0) _ HBk.out Tryz.underlying29 rfl infoStP ?_) | (go_at_call 35; fail))
  refine (openState_any C _ L vs _ (H.out.1.below H0.out) H.out.2.1 H.out.2.2.1 H.out.2.2.2.1 H.out.2.2.2.2).mono ?_
  rintro e w1 ⟨pa, ok, ev, rfl, hok, hf, hb, hop⟩
  have B1 := hide (H0.out.trans (hb.mono (by simp)))
  have HK := hide hok
  have HO := hide hop
  clear hok hb hop
  rcases hf with ⟨hk, rfl⟩ | ⟨hk, m, hF⟩
  · subst hk
    obtain ⟨bs, bn, ps, rfl, ho⟩ := HO.out rfl
    have HP := hide ho
    have HRr := hide (HK.out.1 rfl)
    clear ho HO HK
    go_wp2_with (first | (go_at_call 44; fail) | fail)
    refine (walkPath_any bs bn C L ps _ HP.out HRr.out H.out.2.2.2.1 uid gid fw s hm).mono ?_
    rintro e w2 ⟨rfl, b2⟩
    have B2 := hide (B1.out.trans (b2.mono B1.out.size))
    clear b2
    go_wp2
    go_ret2
    exact ⟨_, rfl, fun _ => rfl, fun hn => absurd HRr.out hn, B2.out⟩
  · subst hk
    obtain ⟨t', x', rfl⟩ := hF.iface
    have HF := hide hF
    clear hF
    go_wp2_with (go_at_call 36; fail)
    refine (codeOf_any m _ 21 _ _ HF.out (HG.out.below B1.out)).mono ?_
    rintro e w2 ⟨rfl, b2⟩
    have B2 := hide (B1.out.trans (b2.mono B1.out.size))
    clear b2
    go_wp2
    go_ret2
    exact ⟨(0, 21), rfl, fun hr => absurd (HK.out.2 hr) (by decide), fun _ => rfl, B2.out⟩
set_option maxRecDepth 100000 in
set_option maxHeartbeats 4000000 in
theorem implWd_any (C : Int) (v : Value) (L : List Nd) (vs : List Value) (w : World) (h : RdN w 9 v (L.map ndE) vs) (hT : totN L ≤ 1099511627776) (hL : L.length ≤ 1048576) (hbd : ∀ i, i < L.length → ∀ z ∈ (ndAt L i).d, 0 ≤ z ∧ z < 256) (hnil : NilV vs) (hg : ErrT w) (uid gid : Int) (s : ByteArray) (hm : s.size ≤ 9223372036854775807) :
    Calls Tryz.prog 22 #[.agg #[.int .i64 C, v], .int .i64 uid, .int .i64 gid, .string s] w fun e w' => WdRs C L uid gid s w w' e := by
  obtain ⟨a, cap, rfl⟩ : ∃ a cap, v = .slice a L.length cap := by obtain ⟨a, cap, e, _⟩ := h.row; exact ⟨a, cap, by simpa using e⟩
  obtain ⟨N, hN⟩ : ∃ N, N = L.length := ⟨_, rfl⟩
  rw [← hN] at h ⊢
  have H := hide (And.intro h (And.intro hT (And.intro hL (And.intro hbd hnil))))
  have HG := hide hg
  clear h hL hbd hN hT hnil hg
  go_enter Tryz.func22, Tryz.ntmps22
  have H0 := hide ((Below.refl w.heap.size w).alloc (Nat.le_refl _) (.cells #[.int .i64 C, .slice a N cap] 29))
  have HBk := hide (Blk.new w #[.int .i64 C, .slice a N cap] 29)
  go_wp2_with (first | (refine wpList_load_row rfl 29 _ rfl w.heap.size rfl 29 #[.int .i64 C, .slice a N cap] (0, 0) _ HBk.out Tryz.underlying29 rfl infoStP ?_) | (go_at_call 35; fail))
  refine (openState_any C _ L vs _ (H.out.1.below H0.out) H.out.2.1 H.out.2.2.1 H.out.2.2.2.1 H.out.2.2.2.2).mono ?_
  rintro e w1 ⟨pa, ok, ev, rfl, hok, hf, hb, hop⟩
  have B1 := hide (H0.out.trans (hb.mono (by simp)))
  have HK := hide hok
  have HO := hide hop
  clear hok hb hop
  rcases hf with ⟨hk, rfl⟩ | ⟨hk, m, hF⟩
  · subst hk
    obtain ⟨bs, bn, ps, rfl, ho⟩ := HO.out rfl
    have HP := hide ho
    have HRr := hide (HK.out.1 rfl)
    clear ho HO HK
    go_wp2_with (first | (go_at_call 46; fail) | fail)
    refine (walkToLast_any bs bn C L ps _ HP.out HRr.out H.out.2.2.2.1 uid gid s hm).mono ?_
    rintro e w2 ⟨rfl, b2⟩
    have B2 := hide (B1.out.trans (b2.mono B1.out.size))
    clear b2
    go_wp2
    go_ret3
    exact ⟨_, rfl, fun _ => rfl, fun hn => absurd HRr.out hn, B2.out⟩
  · subst hk
    obtain ⟨t', x', rfl⟩ := hF.iface
    have HF := hide hF
    clear hF
    go_wp2_with (go_at_call 36; fail)
    refine (codeOf_any m _ 21 _ _ HF.out (HG.out.below B1.out)).mono ?_
    rintro e w2 ⟨rfl, b2⟩
    have B2 := hide (B1.out.trans (b2.mono B1.out.size))
    clear b2
    go_wp2
    go_ret3
    exact ⟨(0, ⟨#[]⟩, 21), rfl, fun hr => absurd (HK.out.2 hr) (by decide), fun _ => rfl, B2.out⟩
end Go.Proofs.YtplieplmhdfndaaGreatDoor

namespace Go.Proofs.YtplieplmhdfndaaGreatDoor
set_option linter.unusedVariables false
set_option linter.unusedSimpArgs false
open Go.RowKit

theorem wk_same {P : Prop} {α : Type} {p q x y : α} (h1 : P → p = x) (h2 : ¬ P → p = y) (h3 : P → q = x) (h4 : ¬ P → q = y) : p = q := by
  by_cases h : P
  · rw [h1 h, h3 h]
  · rw [h2 h, h4 h]
set_option maxRecDepth 100000 in
set_option maxHeartbeats 4000000 in
theorem walk7_any (C : Int) (v : Value) (L : List Nd) (vs : List Value) (w : World) (h : RdN w 9 v (L.map ndE) vs) (hR : RightS C L) (hbd : ∀ i, i < L.length → ∀ z ∈ (ndAt L i).d, 0 ≤ z ∧ z < 256) (uid gid : Int) (fw : Bool) (s : ByteArray) (hm : s.size ≤ 9223372036854775807) :
    Calls Tryz.prog 43 #[.agg #[.int .i64 C, v], .int .i64 uid, .int .i64 gid, .string s, .bool fw] w fun e w' => e = .returned (.tuple #[.int .i64 (wpR L uid gid fw s).1, .int .i64 (wpR L uid gid fw s).2]) ∧ Below w.heap.size w w' := by
  obtain ⟨a, cap, rfl⟩ : ∃ a cap, v = .slice a L.length cap := by obtain ⟨a, cap, e, _⟩ := h.row; exact ⟨a, cap, by simpa using e⟩
  obtain ⟨N, hN⟩ : ∃ N, N = L.length := ⟨_, rfl⟩
  rw [← hN] at h ⊢
  have H := hide (And.intro h (And.intro hR hbd))
  have K0 := hide (And.intro (Blk.new w #[.int .i64 C, .slice a N cap] 29) (show Below w.heap.size w (w.alloc (.cells #[.int .i64 C, .slice a N cap] 29)) from (Below.refl _ _).alloc (Nat.le_refl _) _))
  clear h hR hbd hN
  go_enter Tryz.func43, Tryz.ntmps43
  go_wp2_with (go_at_call 28; fail)
  refine (specSplit_any s _ hm).mono ?_
  rintro e w1 ⟨v1, rfl, o1, b1⟩
  have K1 := hide (And.intro (K0.out.1.below b1 K0.out.1.lt) (K0.out.2.trans (b1.mono K0.out.2.size)))
  have R1 := hide (RdO.own o1)
  clear o1 b1 K0
  by_cases hc : Spl.codeSP s = 0
  · rw [hc]
    have HR := hide (show wpR L uid gid fw s = goH L uid gid fw 8 (Spl.names s) 1 from by unfold wpR; rw [if_pos hc])
    have HN := hide (show Spl.namesSP s = Spl.names s from names_told hc)
    have HL := hide (long_no (code_long hc))
    clear hc
    go_wp2_with (first | (refine wpList_load_row rfl 29 _ rfl w.heap.size rfl 29 #[.int .i64 C, .slice a N cap] (0, 0) _ K1.out.1 Tryz.underlying29 rfl infoStP ?_) | (go_at_call 71; fail))
    refine (go7_any C L H.out.2.1 H.out.2.2 uid gid fw 8 (Nat.le_refl _) (Spl.names s) 1 (AtN.root H.out.2.1) HL.out.1 (.slice a N cap) vs v1 _ (H.out.1.below K1.out.2) (by rw [← HN.out]; exact R1.out)).mono ?_
    rintro e w2 ⟨rfl, b2⟩
    have B2 := hide (K1.out.2.trans (b2.mono K1.out.2.size))
    clear b2
    go_wp2
    go_ret2
    rw [HR.out]
    exact ⟨rfl, B2.out⟩
  · have HR := hide (show wpR L uid gid fw s = (0, Spl.codeSP s) from by unfold wpR; rw [if_neg hc])
    have hcb : (Spl.codeSP s != 0) = true := by simpa using hc
    clear hc
    go_wp2
    go_ret2
    rw [HR.out]
    exact ⟨rfl, K1.out.2⟩
set_option maxRecDepth 100000 in
set_option maxHeartbeats 4000000 in
theorem specWk_any (C : Int) (v : Value) (L : List Nd) (vs : List Value) (w : World) (h : RdN w 9 v (L.map ndE) vs) (hL : L.length ≤ 1048576) (hbd : ∀ i, i < L.length → ∀ z ∈ (ndAt L i).d, 0 ≤ z ∧ z < 256) (uid gid : Int) (fw : Bool) (s : ByteArray) (hm : s.size ≤ 9223372036854775807) :
    Calls Tryz.prog 19 #[.agg #[.int .i64 C, v], .int .i64 uid, .int .i64 gid, .string s, .bool fw] w fun e w' => WkRs C L uid gid fw s w w' e := by
  obtain ⟨a, cap, rfl⟩ : ∃ a cap, v = .slice a L.length cap := by obtain ⟨a, cap, e, _⟩ := h.row; exact ⟨a, cap, by simpa using e⟩
  obtain ⟨N, hN⟩ : ∃ N, N = L.length := ⟨_, rfl⟩
  rw [← hN] at h ⊢
  have H := hide (And.intro h (And.intro hL hbd))
  clear h hL hbd hN
  go_enter Tryz.func19, Tryz.ntmps19
  have H0 := hide ((Below.refl w.heap.size w).alloc (Nat.le_refl _) (.cells #[.int .i64 C, .slice a N cap] 29))
  have HBk := hide (Blk.new w #[.int .i64 C, .slice a N cap] 29)
  go_wp2_with (first | (refine wpList_load_row rfl 29 _ rfl w.heap.size rfl 29 #[.int .i64 C, .slice a N cap] (0, 0) _ HBk.out Tryz.underlying29 rfl infoStP ?_) | (go_at_call 33; fail))
  refine (right_any C _ L vs _ (H.out.1.below H0.out) H.out.2.1 H.out.2.2).mono ?_
  rintro e w1 ⟨b, rfl, hb, b1⟩
  have K := hide (And.intro hb (And.intro (H0.out.trans (b1.mono (by simp))) (HBk.out.below b1 HBk.out.lt)))
  clear hb b1 H0 HBk
  cases b
  · go_wp2
    go_ret2
    exact ⟨(0, 21), rfl, fun hr => absurd (K.out.1.2 hr) (by decide), fun _ => rfl, K.out.2.1⟩
  · go_wp2_with (first | (refine wpList_load_row rfl 29 _ rfl w.heap.size rfl 29 #[.int .i64 C, .slice a N cap] (0, 0) _ K.out.2.2 Tryz.underlying29 rfl infoStP ?_) | (go_at_call 43; fail))
    refine (walk7_any C _ L vs _ (H.out.1.below K.out.2.1) (show RightS C L from by simpa using K.out.1) H.out.2.2 uid gid fw s hm).mono ?_
    rintro e w2 ⟨rfl, b2⟩
    have B2 := hide (K.out.2.1.trans (b2.mono K.out.2.1.size))
    clear b2
    go_wp2
    go_ret2
    exact ⟨_, rfl, fun _ => rfl, fun hn => absurd (show RightS C L from by simpa using K.out.1) hn, B2.out⟩
set_option maxRecDepth 100000 in
set_option maxHeartbeats 8000000 in
theorem walkDir7_any (C : Int) (v : Value) (L : List Nd) (vs : List Value) (w : World) (h : RdN w 9 v (L.map ndE) vs) (hR : RightS C L) (hbd : ∀ i, i < L.length → ∀ z ∈ (ndAt L i).d, 0 ≤ z ∧ z < 256) (uid gid : Int) (s : ByteArray) (hm : s.size ≤ 9223372036854775807) :
    Calls Tryz.prog 45 #[.agg #[.int .i64 C, v], .int .i64 uid, .int .i64 gid, .string s] w fun e w' => e = .returned (.tuple #[.int .i64 (wlR L uid gid s).1, .string (wlR L uid gid s).2.1, .int .i64 (wlR L uid gid s).2.2]) ∧ Below w.heap.size w w' := by
  obtain ⟨a, cap, rfl⟩ : ∃ a cap, v = .slice a L.length cap := by obtain ⟨a, cap, e, _⟩ := h.row; exact ⟨a, cap, by simpa using e⟩
  obtain ⟨N, hN⟩ : ∃ N, N = L.length := ⟨_, rfl⟩
  rw [← hN] at h ⊢
  have hNL : N ≤ 1001 := by rw [hN]; exact hR.len.2
  have HNN := hide hN
  have H := hide (And.intro h (And.intro hR hbd))
  have K0 := hide (And.intro (Blk.new w #[.int .i64 C, .slice a N cap] 29) (show Below w.heap.size w (w.alloc (.cells #[.int .i64 C, .slice a N cap] 29)) from (Below.refl _ _).alloc (Nat.le_refl _) _))
  clear h hR hbd hN
  obtain ⟨R, hRR⟩ : ∃ R, R = wlR L uid gid s := ⟨_, rfl⟩
  rw [← hRR]
  unfold wlR at hRR
  go_enter Tryz.func45, Tryz.ntmps45
  go_wp2_with (go_at_call 28; fail)
  refine (specSplit_any s _ hm).mono ?_
  rintro e w1 ⟨v1, rfl, o1, b1⟩
  have K1 := hide (And.intro (K0.out.1.below b1 K0.out.1.lt) (K0.out.2.trans (b1.mono K0.out.2.size)))
  have R1 := hide (RdO.own o1)
  clear o1 b1 K0
  by_cases hc : Spl.codeSP s = 0
  rotate_left
  · rw [if_neg hc] at hRR
    have hcb : (Spl.codeSP s != 0) = true := by simpa using hc
    clear hc
    go_wp2
    go_ret3
    rw [hRR]
    exact ⟨rfl, K1.out.2⟩
  rw [if_pos hc] at hRR
  rw [hc]
  have HL := hide (long_no (code_long hc))
  have R2 := R1.out
  rw [names_told hc] at R2
  clear hc R1
  rcases List.eq_nil_or_concat (Spl.names s) with he | ⟨r, nm, he⟩
  · rw [he] at hRR R2
    obtain ⟨a2, cap2, rfl, _⟩ := R2
    simp only [List.length_nil]
    have hRR2 : R = (0, ⟨#[]⟩, 18) := hRR
    clear hRR
    go_wp2
    go_ret3
    rw [hRR2]
    exact ⟨rfl, K1.out.2⟩
  rw [List.concat_eq_append] at he
  rw [he] at hRR R2 HL
  rw [List.getLast?_concat, List.dropLast_concat] at hRR
  simp only at hRR
  obtain ⟨b2, off2, cap2, rfl, hc1, hc2, hblt, hcell, hrd⟩ := R2.snoc
  obtain ⟨n, hn⟩ : ∃ n, n = r.length := ⟨_, rfl⟩
  have HRd := hide hrd
  rw [← hn] at hc1 hcell ⊢
  have HN := hide hn
  have hcm : cap2 ≤ 9223372036854775807 := hc2
  have hz1 : (((n + 1 : Nat) : Int) == 0) = false := by simp; omega
  have hs1 : ((n : Int) + 1 - 1) = (n : Int) := by omega
  have HL1 := hide (show r.length ≤ 40 from by have := HL.out.1; simp at this; omega)
  have hn40 : n ≤ 40 := by rw [hn]; exact HL1.out
  have hwn : IntKind.i64.wrap (n : Int) = (n : Int) := by rw [IntKind.wrap_i64]; omega
  have HR := hide hRR
  clear hrd hn R2 hRR hc2 he HL
  go_upto_region 7 with fail
  clear hcell
  by_cases hd : nm = wkDot
  · subst hd
    have HR2 := hide (show R = (0, ⟨#[]⟩, 7) from by rw [HR.out, if_pos (Or.inl rfl)])
    unfold wkDot
    go_wp2
    go_ret3
    rw [HR2.out]
    exact ⟨rfl, K1.out.2⟩
  have hd1 : (nm.toList == [46]) = false := ne_list hd
  by_cases hu : nm = wkUp
  · subst hu
    have HR2 := hide (show R = (0, ⟨#[]⟩, 7) from by rw [HR.out, if_pos (Or.inr rfl)])
    unfold wkUp
    go_wp2
    go_ret3
    rw [HR2.out]
    exact ⟨rfl, K1.out.2⟩
  have hd2 : (nm.toList == [46, 46]) = false := ne_list hu
  have HR2 := HR.out
  rw [if_neg (by simp [hd, hu])] at HR2
  clear HR hd hu
  obtain ⟨Q, hQ⟩ : ∃ Q, Q = goH L uid gid true 8 r 1 := ⟨_, rfl⟩
  rw [← hQ] at HR2
  have HQ := hide hQ
  have HR0 := hide HR2
  clear hQ HR2
  go_upto_region 9 with fail
  refine wp_region_noPanic ?_
  refine wp_region_held_drew (S := fun w' => Blk w' w.heap.size #[.int .i64 C, .slice a N cap] 29) (by kernel_rfl) K1.out.1 (fun hH => ?_)
  refine wpAnyH_take (i := 0) (oi := _) (v := .agg #[.int .i64 C, .slice a N cap]) rfl (by kernel_rfl) (by kernel_rfl) (by kernel_rfl) (fun _ _ _ h => h) (yieldsIf_load_mid (by rfl) 29 _ rfl w.heap.size 0 rfl (#[.int .i64 C, .slice a N cap]).toList _ (fun w' h => blk_range h) Tryz.underlying29 rfl infoStP) hH ?_
  try simp only [Act.put, List.getElem_toArray, List.getElem_cons_zero, List.getElem_cons_succ, List.setIfInBounds_toArray, List.set_cons_zero, List.set_cons_succ]
  refine wpAnyH_take (i := 1) (oi := _) (v := .int .i64 uid) rfl (by kernel_rfl) (by kernel_rfl) (by kernel_rfl) (fun _ _ _ h => h) (Or.inl ⟨by rfl, fun w' hw' => by go_simp⟩) hH ?_
  try simp only [Act.put, List.getElem_toArray, List.getElem_cons_zero, List.getElem_cons_succ, List.setIfInBounds_toArray, List.set_cons_zero, List.set_cons_succ]
  refine wpAnyH_take (i := 2) (oi := _) (v := .int .i64 gid) rfl (by kernel_rfl) (by kernel_rfl) (by kernel_rfl) (fun _ _ _ h => h) (Or.inl ⟨by rfl, fun w' hw' => by go_simp⟩) hH ?_
  try simp only [Act.put, List.getElem_toArray, List.getElem_cons_zero, List.getElem_cons_succ, List.setIfInBounds_toArray, List.set_cons_zero, List.set_cons_succ]
  refine wpAnyH_take (i := 3) (oi := _) (v := .slice (some ⟨b2, off2, none⟩) (n + 1) cap2) rfl (by kernel_rfl) (by kernel_rfl) (by kernel_rfl) (fun _ _ _ h => h) (Or.inl ⟨by rfl, fun w' hw' => by go_simp⟩) hH ?_
  try simp only [Act.put, List.getElem_toArray, List.getElem_cons_zero, List.getElem_cons_succ, List.setIfInBounds_toArray, List.set_cons_zero, List.set_cons_succ]
  refine wpAnyH_take (i := 4) (oi := _) (v := .slice (some ⟨b2, off2, none⟩) (n + 1) cap2) rfl (by kernel_rfl) (by kernel_rfl) (by kernel_rfl) (fun _ _ _ h => h) (Or.inl ⟨by rfl, fun w' hw' => by go_simp⟩) hH ?_
  try simp only [Act.put, List.getElem_toArray, List.getElem_cons_zero, List.getElem_cons_succ, List.setIfInBounds_toArray, List.set_cons_zero, List.set_cons_succ]
  refine wpAnyH_take (i := 5) (oi := _) (v := .int .i64 ((n : Int) + 1)) rfl (by kernel_rfl) (by kernel_rfl) (by kernel_rfl) (fun _ _ _ h => h) (Or.inl ⟨by rfl, fun w' hw' => by go_simp⟩) hH ?_
  try simp only [Act.put, List.getElem_toArray, List.getElem_cons_zero, List.getElem_cons_succ, List.setIfInBounds_toArray, List.set_cons_zero, List.set_cons_succ]
  refine wpAnyH_take (i := 6) (oi := _) (v := .int .i64 (n : Int)) rfl (by kernel_rfl) (by kernel_rfl) (by kernel_rfl) (fun _ _ _ h => h) (Or.inl ⟨by rfl, fun w' hw' => by go_simp⟩) hH ?_
  try simp only [Act.put, List.getElem_toArray, List.getElem_cons_zero, List.getElem_cons_succ, List.setIfInBounds_toArray, List.set_cons_zero, List.set_cons_succ]
  refine wpAnyH_take (i := 7) (oi := _) (v := .slice (some ⟨b2, off2, none⟩) n cap2) rfl (by kernel_rfl) (by kernel_rfl) (by kernel_rfl) (fun _ _ _ h => h) (Or.inl ⟨by rfl, fun w' hw' => by go_simp; intros; omega⟩) hH ?_
  try simp only [Act.put, List.getElem_toArray, List.getElem_cons_zero, List.getElem_cons_succ, List.setIfInBounds_toArray, List.set_cons_zero, List.set_cons_succ]
  have K2 := hide (show Blk w1.drew w.heap.size #[.int .i64 C, .slice a N cap] 29 ∧ Below w.heap.size w w1.drew ∧ RdO w1.drew (.slice (some ⟨b2, off2, none⟩) n cap2) r from ⟨K1.out.1.below (Below.refl _ _).drew K1.out.1.lt, K1.out.2.drew, by rw [HN.out]; exact HRd.out.below (Below.refl _ _).drew⟩)
  refine wpAnyH_ready (rs := [8]) (by kernel_rfl) (by simp) ?_
  refine AllReadyH.cons (o := _) rfl (fun K hK => ?_) AllReadyH.nil
  go_simp
  have HI := go7_any C L H.out.2.1 H.out.2.2 uid gid true 8 (Nat.le_refl _) r 1 (AtN.root H.out.2.1) HL1.out (.slice a N cap) vs (.slice (some ⟨b2, off2, none⟩) n cap2) w1.drew (H.out.1.below K2.out.2.1) K2.out.2.2
  refine HI.mono ?_
  clear HI
  rintro e w3 ⟨rfl, b3⟩
  have K3 := hide (show Blk w3 w.heap.size #[.int .i64 C, .slice a N cap] 29 ∧ Below w.heap.size w w3 from ⟨K2.out.1.below b3 K2.out.1.lt, K2.out.2.1.trans (b3.mono K2.out.2.1.size)⟩)
  rw [← HQ.out]
  clear b3 K2
  refine hK.out _ _ K3.out.1 (fun hH => ?_)
  clear hK K
  try simp only [Act.put, List.getElem_toArray, List.getElem_cons_zero, List.getElem_cons_succ, List.setIfInBounds_toArray, List.set_cons_zero, List.set_cons_succ]
  refine wpAnyH_take (i := 9) (oi := _) (v := .tuple #[.int .i64 Q.1, .int .i64 Q.2]) rfl (by kernel_rfl) (by kernel_rfl) (by kernel_rfl) (fun _ _ _ h => h) (Or.inl ⟨by rfl, fun w' hw' => by go_simp⟩) hH ?_
  try simp only [Act.put, List.getElem_toArray, List.getElem_cons_zero, List.getElem_cons_succ, List.setIfInBounds_toArray, List.set_cons_zero, List.set_cons_succ]
  refine wpAnyH_take (i := 10) (oi := _) (v := .int .i64 Q.1) rfl (by kernel_rfl) (by kernel_rfl) (by kernel_rfl) (fun _ _ _ h => h) (Or.inl ⟨by rfl, fun w' hw' => by go_simp⟩) hH ?_
  try simp only [Act.put, List.getElem_toArray, List.getElem_cons_zero, List.getElem_cons_succ, List.setIfInBounds_toArray, List.set_cons_zero, List.set_cons_succ]
  refine wpAnyH_take (i := 11) (oi := _) (v := .int .i64 Q.2) rfl (by kernel_rfl) (by kernel_rfl) (by kernel_rfl) (fun _ _ _ h => h) (Or.inl ⟨by rfl, fun w' hw' => by go_simp⟩) hH ?_
  try simp only [Act.put, List.getElem_toArray, List.getElem_cons_zero, List.getElem_cons_succ, List.setIfInBounds_toArray, List.set_cons_zero, List.set_cons_succ]
  refine wpAnyH_take (i := 12) (oi := _) (v := .int .i64 Q.1) rfl (by kernel_rfl) (by kernel_rfl) (by kernel_rfl) (fun _ _ _ h => h) (Or.inl ⟨by rfl, fun w' hw' => by go_simp⟩) hH ?_
  try simp only [Act.put, List.getElem_toArray, List.getElem_cons_zero, List.getElem_cons_succ, List.setIfInBounds_toArray, List.set_cons_zero, List.set_cons_succ]
  refine wpAnyH_take (i := 13) (oi := _) (v := .int .i64 Q.2) rfl (by kernel_rfl) (by kernel_rfl) (by kernel_rfl) (fun _ _ _ h => h) (Or.inl ⟨by rfl, fun w' hw' => by go_simp⟩) hH ?_
  try simp only [Act.put, List.getElem_toArray, List.getElem_cons_zero, List.getElem_cons_succ, List.setIfInBounds_toArray, List.set_cons_zero, List.set_cons_succ]
  refine wpAnyH_done (by kernel_rfl) (NoPanic.normal ?_) _
  clear hH K1 HRd
  have HR2 := HR0.out
  clear HR0
  by_cases hq0 : Q.2 = 0
  rotate_left
  · rw [if_neg hq0] at HR2
    have hqc : (Q.2 != 0) = true := by simpa using hq0
    have HR3 := hide HR2
    clear HR2 hq0
    go_wp2
    go_ret3
    rw [HR3.out]
    exact ⟨rfl, K3.out.2⟩
  rw [if_pos hq0] at HR2
  obtain ⟨m, hm1, hm2⟩ := goH_at H.out.2.1 uid gid true 8 r 1 (AtN.root H.out.2.1) (by rw [← HQ.out]; exact hq0)
  rw [← HQ.out] at hm1
  rw [hm1] at HR2
  rw [hm1, hq0]
  rw [Int.toNat_natCast] at HR2
  have HR3 := hide HR2
  have HM := hide hm2
  clear HR2 hm1 hq0
  obtain ⟨b, off, cap', na, nc, ev, hb, hr, hu, hrange⟩ := node_at (H.out.1.below K3.out.2) hm2.2.1
  injection ev with ev1 ev2 ev3
  subst ev1 ev3
  have hmN : m < N := by rw [HNN.out]; exact hm2.2.1
  obtain ⟨x, hx⟩ : ∃ x, x = ndAt L m := ⟨_, rfl⟩
  rw [← hx] at hr hrange HR3
  obtain ⟨q, hq⟩ : ∃ q, q = x.d.length := ⟨_, rfl⟩
  rw [← hq] at hr hrange
  have cS := (K3.out.1.cell 1).trans (show _ = some (.slice (some ⟨b, off, none⟩) N cap) from rfl)
  have c0 := hrange 0 _ rfl
  rw [Nat.add_zero] at c0
  have HRG := hide (show w3.rangeAt b (off + m * 10) [.int .i64 x.k, .int .i64 x.l, .int .i64 x.m, .int .i64 x.u, .int .i64 x.g, .int .i64 x.p, .int .i64 x.e, .int .i64 x.t, .int .i64 x.c, .slice na q nc] from hrange)
  clear hr hu hrange hb ev2 hm2 hx hq
  by_cases hk : x.k = 2
  rotate_left
  · have HR4 := hide (show R = (0, ⟨#[]⟩, 5) from by
      have he : entC0 x uid gid = 5 := by unfold entC0; rw [if_pos hk]
      rw [HR3.out, he, if_neg (by decide)])
    have hkb : (x.k != 2) = true := by simpa using hk
    clear hk
    go_wp2
    go_ret3
    rw [HR4.out]
    exact ⟨rfl, K3.out.2⟩
  have hkb : (x.k != 2) = false := by simpa using hk
  have HK := hide hk
  clear hk
  go_wp2_with (first | (refine wpList_load_mid rfl 56 _ rfl b (off + m * 10) rfl [.int .i64 x.k, .int .i64 x.l, .int .i64 x.m, .int .i64 x.u, .int .i64 x.g, .int .i64 x.p, .int .i64 x.e, .int .i64 x.t, .int .i64 x.c, .slice na q nc] _ HRG.out Tryz.underlying56 rfl infoNd ?_) | (go_at_call 74; fail))
  refine (specMay_any x.k x.l x.m x.u x.g x.p x.e x.t x.c (.slice na q nc) uid gid 1 _).mono ?_
  rintro e w4 ⟨rfl, b4⟩
  have K4 := hide (K3.out.2.trans (b4.mono K3.out.2.size))
  clear b4
  by_cases hmay : mayB x.m x.u x.g uid gid 1 = true
  · have HR4 := hide (show R = ((m : Int), nm, 0) from by
      have he : entC0 x uid gid = 0 := by unfold entC0; rw [if_neg (by simpa using HK.out), if_neg (by rw [hmay]; decide)]
      rw [HR3.out, he, if_pos rfl])
    rw [hmay]
    clear hmay
    go_wp2
    go_ret3
    rw [HR4.out]
    exact ⟨rfl, K4.out⟩
  · have hmf : mayB x.m x.u x.g uid gid 1 = false := by simpa using hmay
    have HR4 := hide (show R = (0, ⟨#[]⟩, 3) from by
      have he : entC0 x uid gid = 3 := by unfold entC0; rw [if_neg (by simpa using HK.out), if_pos hmf]
      rw [HR3.out, he, if_neg (by decide)])
    rw [hmf]
    clear hmay hmf
    go_wp2
    go_ret3
    rw [HR4.out]
    exact ⟨rfl, K4.out⟩
set_option maxRecDepth 100000 in
set_option maxHeartbeats 4000000 in
theorem specWd_any (C : Int) (v : Value) (L : List Nd) (vs : List Value) (w : World) (h : RdN w 9 v (L.map ndE) vs) (hL : L.length ≤ 1048576) (hbd : ∀ i, i < L.length → ∀ z ∈ (ndAt L i).d, 0 ≤ z ∧ z < 256) (uid gid : Int) (s : ByteArray) (hm : s.size ≤ 9223372036854775807) :
    Calls Tryz.prog 21 #[.agg #[.int .i64 C, v], .int .i64 uid, .int .i64 gid, .string s] w fun e w' => WdRs C L uid gid s w w' e := by
  obtain ⟨a, cap, rfl⟩ : ∃ a cap, v = .slice a L.length cap := by obtain ⟨a, cap, e, _⟩ := h.row; exact ⟨a, cap, by simpa using e⟩
  obtain ⟨N, hN⟩ : ∃ N, N = L.length := ⟨_, rfl⟩
  rw [← hN] at h ⊢
  have H := hide (And.intro h (And.intro hL hbd))
  clear h hL hbd hN
  go_enter Tryz.func21, Tryz.ntmps21
  have H0 := hide ((Below.refl w.heap.size w).alloc (Nat.le_refl _) (.cells #[.int .i64 C, .slice a N cap] 29))
  have HBk := hide (Blk.new w #[.int .i64 C, .slice a N cap] 29)
  go_wp2_with (first | (refine wpList_load_row rfl 29 _ rfl w.heap.size rfl 29 #[.int .i64 C, .slice a N cap] (0, 0) _ HBk.out Tryz.underlying29 rfl infoStP ?_) | (go_at_call 33; fail))
  refine (right_any C _ L vs _ (H.out.1.below H0.out) H.out.2.1 H.out.2.2).mono ?_
  rintro e w1 ⟨b, rfl, hb, b1⟩
  have K := hide (And.intro hb (And.intro (H0.out.trans (b1.mono (by simp))) (HBk.out.below b1 HBk.out.lt)))
  clear hb b1 H0 HBk
  cases b
  · go_wp2
    go_ret3
    exact ⟨(0, ⟨#[]⟩, 21), rfl, fun hr => absurd (K.out.1.2 hr) (by decide), fun _ => rfl, K.out.2.1⟩
  · go_wp2_with (first | (refine wpList_load_row rfl 29 _ rfl w.heap.size rfl 29 #[.int .i64 C, .slice a N cap] (0, 0) _ K.out.2.2 Tryz.underlying29 rfl infoStP ?_) | (go_at_call 45; fail))
    refine (walkDir7_any C _ L vs _ (H.out.1.below K.out.2.1) (show RightS C L from by simpa using K.out.1) H.out.2.2 uid gid s hm).mono ?_
    rintro e w2 ⟨rfl, b2⟩
    have B2 := hide (K.out.2.1.trans (b2.mono K.out.2.1.size))
    clear b2
    go_wp2
    go_ret3
    exact ⟨_, rfl, fun _ => rfl, fun hn => absurd (show RightS C L from by simpa using K.out.1) hn, B2.out⟩
end Go.Proofs.YtplieplmhdfndaaGreatDoor
