/- Plans: their size, two that are the same, marks. -/
import Derived.Test.YtmmhkjpkidljlaaDoorZc40
namespace Go.Proofs.YtmmhkjpkidljlaaDoor
set_option linter.unusedVariables false
set_option linter.unusedSimpArgs false
open Go.RowKit

theorem szByteN_any (v : Value) (zs : List Int) (l : Int) (w : World) (h : Rd .u8 w v zs) (h0 : 0 ≤ l) (h1 : l ≤ 1048576) :
    Calls Tryd.prog 51 #[v, .int .i64 l] w fun e w' => e = .returned (.int .i64 (if l < (zs.length : Int) then -1 else l - zs.length)) ∧ w' = w := by
  have hm := h.len
  unfold maxLen at hm
  obtain ⟨a, cap, rfl⟩ := rd_shape h
  clear h
  by_cases hb : l < (zs.length : Int)
  · rw [if_pos hb]
    go_enter Tryd.func51, Tryd.ntmps51
    go_wp2
    go_ret
    exact ⟨rfl, rfl⟩
  · rw [if_neg hb]
    go_enter Tryd.func51, Tryd.ntmps51
    go_wp2
    go_ret
    exact ⟨rfl, rfl⟩
set_option maxRecDepth 100000 in
theorem szPut_any (b : Int) (u : Value) (zs : List Int) (l : Int) (w : World) (h : Rd .u8 w u zs) (h0 : 0 ≤ l) (h1 : l ≤ 1048576) :
    Calls Tryd.prog 27 #[.agg #[.int .i64 b, u], .int .i64 l] w fun e w' => e = .returned (.int .i64 (if l < (zs.length : Int) then -1 else l - zs.length)) ∧ Below w.heap.size w w' := by
  obtain ⟨a, cap, rfl⟩ := rd_shape h
  have HR := hide h
  have HB := hide (show ∀ o, Below w.heap.size w (w.alloc o) from fun o => (Below.refl _ _).alloc (Nat.le_refl _) o)
  clear h
  by_cases hb : l < (zs.length : Int)
  · have HE := hide (show (if l < (zs.length : Int) then (-1 : Int) else l - zs.length) = -1 from if_pos hb)
    rw [HE.out]
    go_enter Tryd.func27, Tryd.ntmps27
    go_wp2_with fail
    refine (szByteN_any _ zs l _ (HR.out.below (HB.out _)) h0 h1).mono ?_
    rintro e w1 ⟨rfl, hw⟩
    rw [hw, HE.out]
    clear hw w1
    go_wp2
    go_ret
    exact ⟨rfl, HB.out _⟩
  · have HE := hide (show (if l < (zs.length : Int) then (-1 : Int) else l - zs.length) = l - zs.length from if_neg hb)
    rw [HE.out]
    have hq : decide (l - (zs.length : Int) < 0) = false := by simp; omega
    go_enter Tryd.func27, Tryd.ntmps27
    go_wp2_with fail
    refine (szByteN_any _ zs l _ (HR.out.below (HB.out _)) h0 h1).mono ?_
    rintro e w1 ⟨rfl, hw⟩
    rw [hw, HE.out]
    clear hw w1
    go_wp2
    go_ret
    exact ⟨rfl, HB.out _⟩
set_option maxRecDepth 100000 in
set_option maxHeartbeats 1000000 in
theorem szPutS_any (v : Value) (Q : List (Int × List Int)) (us : List Value) (w : World) (h : RdN w 1 v (Q.map neP) us) :
    Calls Tryd.prog 13 #[v, .int .i64 1048576] w fun e w' => ∃ r : Int, e = .returned (.int .i64 r) ∧ (0 ≤ r → r ≤ 1048576 ∧ Q.length ≤ 1048576 ∧ ∀ p ∈ Q, p.2.length ≤ 1048576) ∧ Below w.heap.size w w' := by
  obtain ⟨a, cap, rfl⟩ : ∃ a cap, v = .slice a Q.length cap := by obtain ⟨a, cap, e, _⟩ := h.row; exact ⟨a, cap, by simpa using e⟩
  have hm : Q.length ≤ 9223372036854775807 := by obtain ⟨a, cap, _, _, g1, g2⟩ := h.row; unfold maxLen at g2; simp at g1; omega
  have HQ := hide (show RdN w 1 (.slice a (Q.map neP).length cap) (Q.map neP) us from by simpa using h)
  clear h
  by_cases hbig : (1048576 : Int) < (Q.length : Int)
  · go_enter Tryd.func13, Tryd.ntmps13
    go_wp2
    go_ret
    exact ⟨-1, rfl, fun h => by omega, Below.refl _ _⟩
  · have hq : Q.length ≤ 1048576 := by omega
    go_enter Tryd.func13, Tryd.ntmps13
    go_wp2
    go_loopw [1, 5] (fun x i wr => ∃ (k : Nat) (l : Int), k ≤ Q.length ∧ i = .int .i64 (k : Int) ∧ x = .int .i64 l ∧ 0 ≤ l ∧ l ≤ 1048576 ∧ (∀ p ∈ Q.take k, p.2.length ≤ 1048576) ∧ Below w.heap.size w wr) (fun _ i _ => Q.length - (intOf i).toNat)
    case atStart => exact ⟨0, _, Nat.zero_le _, rfl, rfl, by omega, by omega, fun p h => by simp at h, Below.refl _ _⟩
    case round =>
      obtain ⟨k, l, hk, rfl, rfl, hl0, hl1, hp, hb⟩ := hrel
      have HP := hide hp
      have HB := hide hb
      clear hp hb
      by_cases hlt : k < Q.length
      · obtain ⟨p, hp⟩ : ∃ p, Q[k]? = some p := ⟨_, List.getElem?_eq_getElem hlt⟩
        obtain ⟨x0, zs⟩ := p
        obtain ⟨b, off, u, e0, hb0, hu, hrd, hrg⟩ := (HQ.out.below HB.out).at (i := k) (l := neP (x0, zs)) (by rw [List.getElem?_map, hp]; rfl)
        subst e0
        have HRg := hide (show wr.rangeAt b (off + k * 2) [.int .i64 x0, u] from hrg)
        have HRd := hide (show Rd .u8 wr u zs from hrd)
        have HPk := hide hp
        clear hrg hrd hu hp
        go_wp2_with (first | (refine wpList_load_mid rfl 69 _ rfl b (off + k * 2) rfl [.int .i64 x0, u] _ HRg.out Tryd.underlying69 rfl infoPL ?_) | fail)
        refine (szPut_any x0 u zs l _ HRd.out hl0 hl1).mono ?_
        rintro e w2 ⟨rfl, b2⟩
        have B2 := hide (HB.out.trans (b2.mono HB.out.size))
        clear b2
        by_cases hzs : l < (zs.length : Int)
        · rw [if_pos hzs]
          go_wp2
          go_ret
          first
          | exact ⟨-1, rfl, fun h => by omega, B2.out⟩
          | exact ⟨_, rfl, fun h => by omega, B2.out⟩
        · rw [if_neg hzs]
          have hq2 : decide (l - (zs.length : Int) < 0) = false := by simp; omega
          go_wp2
          go_roundw
          case rel =>
            refine ⟨k + 1, _, by omega, by go_num, rfl, by omega, by omega, fun p hp => ?_, B2.out⟩
            rw [List.take_add_one, HPk.out, List.mem_append] at hp
            rcases hp with hp | hp
            · exact HP.out p hp
            · simp at hp
              subst hp
              simp
              omega
          case measure => simp [intOf]; omega
      · obtain rfl : k = Q.length := by omega
        have HP2 := hide (show ∀ p ∈ Q, p.2.length ≤ 1048576 from fun p hp => HP.out p (by rw [List.take_length]; exact hp))
        go_wp2
        go_ret
        exact ⟨l, rfl, fun _ => ⟨hl1, hq, HP2.out⟩, HB.out⟩
set_option maxRecDepth 100000 in
set_option maxHeartbeats 1000000 in
theorem szCpOut_any (v : Value) (Q : List (Int × List Int)) (us : List Value) (F : List Int) (w : World) (h : RdN w 1 v (Q.map neP) us) :
    Calls Tryd.prog 4 #[.agg (cpC v F), .int .i64 1048576] w fun e w' => ∃ r : Int, e = .returned (.int .i64 r) ∧ (0 ≤ r → Q.length ≤ 1048576 ∧ ∀ p ∈ Q, p.2.length ≤ 1048576) ∧ Below w.heap.size w w' := by
  obtain ⟨a, cap, rfl⟩ : ∃ a cap, v = .slice a Q.length cap := by obtain ⟨a, cap, e, _⟩ := h.row; exact ⟨a, cap, by simpa using e⟩
  have HQ := hide h
  have K0 := hide (And.intro (Blk.new w (cpC (.slice a Q.length cap) F) 30) (show Below w.heap.size w (w.alloc (.cells (cpC (.slice a Q.length cap) F) 30)) from (Below.refl _ _).alloc (Nat.le_refl _) _))
  have c0 := cp_head K0.out.1
  clear h
  go_enter Tryd.func4, Tryd.ntmps4
  go_wp2_with fail
  refine (szPutS_any _ Q us _ (HQ.out.below K0.out.2)).mono ?_
  rintro e w1 ⟨r, rfl, hr, b1⟩
  have B1 := hide (K0.out.2.trans (b1.mono K0.out.2.size))
  have HR := hide hr
  clear b1 hr c0
  by_cases h0 : r < 0
  · go_wp2
    go_ret
    exact ⟨-1, rfl, fun h => by omega, B1.out⟩
  · go_wp2
    go_ret
    exact ⟨r, rfl, fun h => (HR.out h).2, B1.out⟩
set_option maxRecDepth 100000 in
set_option maxHeartbeats 1000000 in
theorem eqCpOut_same (v1 v2 : Value) (Q : List (Int × List Int)) (us1 us2 : List Value) (F : List Int) (r : Bool) (enc : List Int) (w : World) (h1 : RdN w 1 v1 (Q.map neP) us1) (h2 : RdN w 1 v2 (Q.map neP) us2) (hF : FsK F r enc) :
    Calls Tryd.prog 9 #[.agg (cpC v1 F), .agg (cpC v2 F)] w fun e w' => e = .returned (.bool true) ∧ Below w.heap.size w w' := by
  obtain ⟨a1, c1, rfl⟩ : ∃ a cap, v1 = .slice a Q.length cap := by obtain ⟨a, cap, e, _⟩ := h1.row; exact ⟨a, cap, by simpa using e⟩
  obtain ⟨a2, c2, rfl⟩ : ∃ a cap, v2 = .slice a Q.length cap := by obtain ⟨a, cap, e, _⟩ := h2.row; exact ⟨a, cap, by simpa using e⟩
  have H := hide (And.intro h1 h2)
  have HF := hide hF
  have HZF := hide (show (F.map (Value.int .i64)).length = 68 by rw [List.length_map]; exact hF.len)
  clear h1 h2 hF
  obtain ⟨X, hX⟩ : ∃ X, X = (w.alloc (.cells (cpC (.slice a1 Q.length c1) F) 40)).alloc (.cells (cpC (.slice a2 Q.length c2) F) 40) := ⟨_, rfl⟩
  have HX := hide (show Below w.heap.size w X ∧ Blk X w.heap.size (cpC (.slice a1 Q.length c1) F) 40 ∧ Blk X (w.heap.size + 1) (cpC (.slice a2 Q.length c2) F) 40 from by
    rw [hX]
    have k1 := Blk.new (w.alloc (.cells (cpC (.slice a1 Q.length c1) F) 40)) (cpC (.slice a2 Q.length c2) F) 40
    rw [World.size_alloc] at k1
    exact ⟨((Below.refl _ _).alloc (Nat.le_refl _) _).alloc (by simp) _, (Blk.new w _ _).alloc _, k1⟩)
  have HXX := hide hX
  have d1 := cp_head HX.out.2.1
  have d2 := cp_head HX.out.2.2
  rw [hX] at d1 d2
  clear hX
  go_enter Tryd.func9, Tryd.ntmps9
  go_wp2_with fail
  rw [← HXX.out]
  clear d1 d2
  refine (eqPutS_same _ _ Q us1 us2 X (H.out.1.below HX.out.1) (H.out.2.below HX.out.1)).mono ?_
  rintro e w1 ⟨rfl, b1⟩
  have H1 := hide (show Below w.heap.size w w1 ∧ Blk w1 w.heap.size (cpC (.slice a1 Q.length c1) F) 40 ∧ Blk w1 (w.heap.size + 1) (cpC (.slice a2 Q.length c2) F) 40 from ⟨HX.out.1.trans (b1.mono HX.out.1.size), HX.out.2.1.below b1 HX.out.2.1.lt, HX.out.2.2.below b1 HX.out.2.2.lt⟩)
  clear b1 HX HXX
  go_wp2_with (first | (refine wpList_load_mid rfl 38 _ rfl w.heap.size 1 rfl (F.map (Value.int .i64)) _ (cp_range H1.out.2.1) Tryd.underlying38 rfl (by rw [HZF.out]; exact info68) ?_) | (refine wpList_load_mid rfl 38 _ rfl (w.heap.size + 1) 1 rfl (F.map (Value.int .i64)) _ (cp_range H1.out.2.2) Tryd.underlying38 rfl (by rw [HZF.out]; exact info68) ?_) | fail)
  refine (HF.out.same _).mono ?_
  rintro e w2 ⟨rfl, b2⟩
  have B2 := hide (H1.out.1.trans (b2.mono H1.out.1.size))
  clear b2
  go_wp2
  go_ret
  exact ⟨rfl, B2.out⟩
theorem KpN.after {w w1 w2 : World} {v : Value} {vs : List Value} (h : KpN w1 w2 v vs) (hb : Below w.heap.size w w1) : KpN w w2 v vs :=
  ⟨h.os.trans hb.os, h.tape.trans hb.tape, h.output.trans hb.output, Nat.le_trans hb.size h.size, fun b hlt h1 h2 => (h.block b (Nat.lt_of_lt_of_le hlt hb.size) h1 h2).trans (hb.block b hlt)⟩
set_option maxRecDepth 100000 in
theorem markCpOut_any (v : Value) (base : Nat) (Q : List (Int × List Int)) (vs : List Value) (F : List Int) (w : World) (h : OwnN w base 52 1 v (Q.map neP) vs) (hk0 : endN 1 1 (Q.map neP) ≤ 140737488355328) :
    Calls Tryd.prog 10 #[.agg (cpC v F), .int .i64 1] w fun e w' => e = .returned (.int .i64 (endN 1 1 (Q.map neP) : Nat)) ∧ KpN w w' v vs := by
  obtain ⟨a, cap, rfl⟩ : ∃ a cap, v = .slice a Q.length cap := by obtain ⟨a, cap, e⟩ := own_shape h.row; exact ⟨a, cap, by simpa using e⟩
  have HQ := hide h
  have K0 := hide (And.intro (Blk.new w (cpC (.slice a Q.length cap) F) 40) (show Below w.heap.size w (w.alloc (.cells (cpC (.slice a Q.length cap) F) 40)) from (Below.refl _ _).alloc (Nat.le_refl _) _))
  have c0 := cp_head K0.out.1
  clear h
  go_enter Tryd.func10, Tryd.ntmps10
  go_wp2_with fail
  refine (markPutS_any _ base 1 Q vs _ (HQ.out.below K0.out.2) hk0).mono ?_
  rintro e w1 ⟨rfl, _, k1⟩
  have K1 := hide (k1.after K0.out.2)
  clear k1 c0
  go_wp2
  go_ret
  exact ⟨rfl, K1.out⟩
end Go.Proofs.YtmmhkjpkidljlaaDoor
