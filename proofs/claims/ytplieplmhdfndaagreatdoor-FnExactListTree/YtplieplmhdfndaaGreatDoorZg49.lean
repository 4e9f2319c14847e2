/- ListTree of the program and of the model. Lists of entries in the laws: two held against each other, marked, held; markText. -/
import Derived.Test.YtplieplmhdfndaaGreatDoorZg48
import Derived.Test.YtplieplmhdfndaaGreatDoorZg41
import Derived.Test.YtplieplmhdfndaaGreatDoorZg42
import Derived.OwnWalk
import Derived.Laws.BytesArg
import Derived.Deep.RegionHeld3
import Derived.Deep.MidRow
import Derived.BigQuiet
namespace Go.Proofs.YtplieplmhdfndaaGreatDoor
set_option linter.unusedVariables false
set_option linter.unusedSimpArgs false
open Go.RowKit

/-- The answer of ListTree. -/
def LtRs (C : Int) (L : List Nd) (w w' : World) (e : Ending) : Prop := ∃ v' Z code, e = .returned (.tuple #[v', .int .i64 code]) ∧ w'.ownsRow w.heap.size 54 2 v' Z.length (foC Z) ∧ Z.length ≤ 32768 ∧ (RightS C L → (Z, code) = (liF L L.length 1 ⟨#[]⟩, 0)) ∧ (¬ RightS C L → (Z, code) = ([], 21)) ∧ Below w.heap.size w w'
theorem own_nilF (w : World) (base : Nat) : w.ownsRow base 54 2 (.slice none 0 0) ([] : List (ByteArray × Int)).length (foC []) := ⟨rfl, .inl ⟨rfl, rfl⟩⟩
set_option maxRecDepth 100000 in
set_option maxHeartbeats 4000000 in
theorem specLt_any (C : Int) (v : Value) (L : List Nd) (vs : List Value) (w : World) (h : RdN w 9 v (L.map ndE) vs) (hL : L.length ≤ 1048576) (hbd : ∀ i, i < L.length → ∀ z ∈ (ndAt L i).d, 0 ≤ z ∧ z < 256) :
    Calls Tryz.prog 13 #[.agg #[.int .i64 C, v]] w fun e w' => LtRs C L w w' e := by
  obtain ⟨a, cap, rfl⟩ : ∃ a cap, v = .slice a L.length cap := by obtain ⟨a, cap, e, _⟩ := h.row; exact ⟨a, cap, by simpa using e⟩
  obtain ⟨N, hN⟩ : ∃ N, N = L.length := ⟨_, rfl⟩
  rw [← hN] at h ⊢
  have H := hide (And.intro h (And.intro hL hbd))
  clear h hL hbd hN
  go_enter Tryz.func13, Tryz.ntmps13
  have H0 := hide ((Below.refl w.heap.size w).alloc (Nat.le_refl _) (.cells #[.int .i64 C, .slice a N cap] 29))
  have HBk := hide (Blk.new w #[.int .i64 C, .slice a N cap] 29)
  go_wp2_with (first | (refine wpList_load_row rfl 29 _ rfl w.heap.size rfl 29 #[.int .i64 C, .slice a N cap] (0, 0) _ HBk.out Tryz.underlying29 rfl infoStP ?_) | (go_at_call 33; fail))
  refine (right_any C _ L vs _ (H.out.1.below H0.out) H.out.2.1 H.out.2.2).mono ?_
  rintro e w1 ⟨b, rfl, hb, b1⟩
  have K := hide (And.intro hb (And.intro (H0.out.trans (b1.mono (by simp))) (HBk.out.below b1 HBk.out.lt)))
  clear hb b1 H0 HBk
  cases b
  · go_wp2
    go_ret2
    exact ⟨_, [], 21, rfl, own_nilF _ _, by simp, fun hr => absurd (K.out.1.2 hr) (by decide), fun _ => rfl, K.out.2.1⟩
  · have HRr := hide (show RightS C L from by simpa using K.out.1)
    go_wp2_with (first | (refine wpList_load_row rfl 29 _ rfl w.heap.size rfl 29 #[.int .i64 C, .slice a N cap] (0, 0) _ K.out.2.2 Tryz.underlying29 rfl infoStP ?_) | (go_at_call 38; fail))
    refine (list7_any C L HRr.out H.out.2.2 L.length 1 (dp_root HRr.out) (.slice a N cap) vs ⟨#[]⟩ _ (H.out.1.below K.out.2.1) (li_max HRr.out _ _) (by have := HRr.out.len.2; show 0 + 27 * L.length ≤ 100000; omega)).mono ?_
    rintro e w2 ⟨v2, rfl, o2, b2⟩
    have B2 := hide (And.intro (own_mono o2 K.out.2.1.size) (K.out.2.1.trans (b2.mono K.out.2.1.size)))
    clear b2 o2
    go_wp2
    go_ret2
    exact ⟨_, _, 0, rfl, B2.out.1, li_max HRr.out _ _, fun _ => rfl, fun hn => absurd HRr.out hn, B2.out.2⟩
set_option maxRecDepth 100000 in
set_option maxHeartbeats 4000000 in
theorem implLt_any (C : Int) (v : Value) (L : List Nd) (vs : List Value) (w : World) (h : RdN w 9 v (L.map ndE) vs) (hT : totN L ≤ 1099511627776) (hL : L.length ≤ 1048576) (hbd : ∀ i, i < L.length → ∀ z ∈ (ndAt L i).d, 0 ≤ z ∧ z < 256) (hnil : NilV vs) (hg : ErrT w) :
    Calls Tryz.prog 14 #[.agg #[.int .i64 C, v]] w fun e w' => LtRs C L w w' e := by
  obtain ⟨a, cap, rfl⟩ : ∃ a cap, v = .slice a L.length cap := by obtain ⟨a, cap, e, _⟩ := h.row; exact ⟨a, cap, by simpa using e⟩
  obtain ⟨N, hN⟩ : ∃ N, N = L.length := ⟨_, rfl⟩
  have HNN := hide hN
  rw [← hN] at h ⊢
  have H := hide (And.intro h (And.intro hT (And.intro hL (And.intro hbd hnil))))
  have HG := hide hg
  clear h hL hbd hN hT hnil hg
  go_enter Tryz.func14, Tryz.ntmps14
  have H0 := hide ((Below.refl w.heap.size w).alloc (Nat.le_refl _) (.cells #[.int .i64 C, .slice a N cap] 29))
  have HBk := hide (Blk.new w #[.int .i64 C, .slice a N cap] 29)
  go_wp2_with (first | (refine wpList_load_row rfl 29 _ rfl w.heap.size rfl 29 #[.int .i64 C, .slice a N cap] (0, 0) _ HBk.out Tryz.underlying29 rfl infoStP ?_) | (go_at_call 35; fail))
  refine (openState_any C _ L vs _ (H.out.1.below H0.out) H.out.2.1 H.out.2.2.1 H.out.2.2.2.1 H.out.2.2.2.2).mono ?_
  rintro e w1 ⟨pa, ok, ev, rfl, hok, hf, hb, hop⟩
  have B1 := hide (H0.out.trans (hb.mono (by simp)))
  have HK := hide hok
  have HO := hide hop
  clear hok hb hop
  rcases hf with ⟨hk, rfl⟩ | ⟨hk, m, hF⟩
  · subst hk
    obtain ⟨bs, bn, ps, rfl, ho⟩ := HO.out rfl
    have HP := hide ho
    have HRr := hide (HK.out.1 rfl)
    obtain ⟨p2, hp2, hn2⟩ := ho.nd.cell (show 1 < L.length from by have := HRr.out.len.1; omega)
    obtain ⟨g2, a2, c2, dp2, rfl, hgb, _, _, _, hd2⟩ := hn2.some (by rw [HRr.out.root.1]; decide)
    obtain ⟨dd2, rfl, hdr2⟩ := hd2 HRr.out.root.1
    have HDR := hide hdr2
    have hN1 : 1 < N := by rw [HNN.out]; have := HRr.out.len.1; omega
    have hNL : N ≤ 1001 := by rw [HNN.out]; exact HRr.out.len.2
    have x1 : w1.cell? ⟨bs, 1, none⟩ = some (.slice (some ⟨bn, 0, none⟩) N N) := by rw [HNN.out]; exact (ho.st.cell 1).trans rfl
    have x4 : w1.cell? ⟨g2, 10, none⟩ = some (.pointer (some ⟨dd2, 0, none⟩)) := (hgb.cell 10).trans rfl
    clear ho HO HK hn2 hd2 hdr2 hgb
    go_wp2_with (first | (go_at_call 39; fail) | fail)
    refine (below_any C L HRr.out ps bs bn w1 HP.out L.length 1 (dp_root HRr.out) dd2 (.slice none 0 0) [] ⟨#[]⟩ w1 HDR.out (Below.refl _ _) (own_nilF _ _) (by rw [List.length_nil, Nat.zero_add]; exact li_max HRr.out _ _) (by have := HRr.out.len.2; show 0 + 27 * L.length ≤ 100000; omega)).mono ?_
    rintro e w2 ⟨v2, rfl, o2, g3, f2⟩
    rw [List.nil_append] at o2
    have b2 : Below w1.heap.size w1 w2 := (Below.refl _ _).grown g3 (Nat.le_refl _) (fun k hk => by cases hk)
    have B2 := hide (And.intro (own_mono o2 B1.out.size) (B1.out.trans (b2.mono B1.out.size)))
    clear b2 o2 g3 f2 x1 x4 hp2
    go_wp2
    go_ret2
    exact ⟨_, _, 0, rfl, B2.out.1, li_max HRr.out _ _, fun _ => rfl, fun hn => absurd HRr.out hn, B2.out.2⟩
  · subst hk
    obtain ⟨t', x', rfl⟩ := hF.iface
    have HF := hide hF
    clear hF
    go_wp2_with (go_at_call 36; fail)
    refine (codeOf_any m _ 21 _ _ HF.out (HG.out.below B1.out)).mono ?_
    rintro e w2 ⟨rfl, b2⟩
    have B2 := hide (B1.out.trans (b2.mono B1.out.size))
    clear b2
    go_wp2
    go_ret2
    exact ⟨_, [], 21, rfl, own_nilF _ _, by simp, fun hr => absurd (HK.out.2 hr) (by decide), fun _ => rfl, B2.out⟩
end Go.Proofs.YtplieplmhdfndaaGreatDoor

namespace Go.Proofs.YtplieplmhdfndaaGreatDoor
set_option linter.unusedVariables false
set_option linter.unusedSimpArgs false
open Go.RowKit

/-- The decimal signs of q, ahead of t. -/
def digsF : Nat → Nat → ByteArray → ByteArray
  | 0, _, t => t
  | f + 1, q, t => if q = 0 then t else digsF f (q / 10) (strOfNums [48 + (q : Int) % 10] ++ t)
theorem digsF_zero (f : Nat) (t : ByteArray) : digsF f 0 t = t := by cases f <;> simp [digsF]
theorem digsF_step (f q : Nat) (t : ByteArray) (h : q ≠ 0) : digsF (f + 1) q t = digsF f (q / 10) (strOfNums [48 + (q : Int) % 10] ++ t) := by simp [digsF, h]
def mtx (m : Nat) : ByteArray := ⟨#[109]⟩ ++ digsF m m ⟨#[]⟩
theorem markText_any (m : Nat) (w : World) (h1 : 1 ≤ m) (h2 : m ≤ 100000) :
    Calls Tryz.prog 42 #[.int .i64 (m : Int)] w fun e w' => e = .returned (.string (mtx m)) ∧ Below w.heap.size w w' := by
  go_enter Tryz.func42, Tryz.ntmps42
  go_wp2
  go_loopw [0, 3] (fun a t wr => ∃ (q f : Nat) (x : ByteArray), a = .int .i64 (q : Int) ∧ t = .string x ∧ q ≤ f ∧ digsF f q x = digsF m m ⟨#[]⟩ ∧ x.size + q ≤ m ∧ Below w.heap.size w wr) (fun a _ _ => (intOf a).toNat)
  case atStart => exact ⟨m, m, ⟨#[]⟩, rfl, rfl, Nat.le_refl _, rfl, by simp [ByteArray.size], Below.refl _ _⟩
  case round =>
    obtain ⟨q, f, x, rfl, rfl, hqf, hd, hx, hb⟩ := hrel
    have HB := hide (And.intro hb hd)
    have hsz := hb.size
    clear hb hd
    by_cases hq : 0 < q
    · obtain ⟨f', rfl⟩ : ∃ f', f = f' + 1 := ⟨f - 1, by omega⟩
      have HD := hide ((digsF_step f' q x (by omega)).symm.trans HB.out.2)
      have hcv : (convert 45 9 (.slice (some ⟨wr.heap.size, 0, none⟩) 1 1)).run Tryz.prog (wr.alloc (.cells #[.int .u8 (48 + (q : Int) % 10)] 5)) = .ok (.string (strOfNums [48 + (q : Int) % 10])) (wr.alloc (.cells #[.int .u8 (48 + (q : Int) % 10)] 5)) :=
        run_convert_bytes_arg _ 45 5 Tryz.underlying45 Tryz.underlying5 wr.heap.size 0 1 1 [48 + (q : Int) % 10] rfl (fun i hi => by
          obtain rfl : i = 0 := by simp at hi; omega
          simp) 9 Tryz.underlying9
      have hs1 : (strOfNums [48 + (q : Int) % 10]).size = 1 := strOfNums_size _
      generalize strOfNums [48 + (q : Int) % 10] = y at hcv HD hs1
      have hcat : ¬ 9223372036854775807 < y.size + x.size := by omega
      have HS := hide (show (y ++ x).size + q / 10 ≤ m from by rw [ByteArray.size_append]; omega)
      go_wp2_with fail
      go_roundw
      case rel => exact ⟨q / 10, f', y ++ x, by go_num, rfl, by omega, HD.out, HS.out, HB.out.1.alloc hsz _⟩
      case measure => simp [intOf]; omega
    · obtain rfl : q = 0 := by omega
      have HD := hide ((digsF_zero f x).symm.trans HB.out.2)
      go_wp2
      go_ret
      refine ⟨ret_val ?_, HB.out.1⟩
      unfold mtx
      rw [← HD.out]
      rfl


theorem grown_set {w w1 : World} {g : Nat} (h : w.grownBy w1 (some g)) (o : Nat) (u : Value) : w.grownBy (w1.setCell ⟨g, o, none⟩ u) (some g) :=
  grownBy_trans h ⟨rfl, rfl, rfl, by simp, fun k hk hn => Below.heap_setCell w1 _ _ k (fun h => hn (by rw [h]))⟩
end Go.Proofs.YtplieplmhdfndaaGreatDoor
