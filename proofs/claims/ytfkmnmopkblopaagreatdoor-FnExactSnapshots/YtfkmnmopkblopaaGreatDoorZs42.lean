/- The model's Snapshots. Marks in a list of snapshots: markText, markSnapS. -/
import Derived.Test.YtfkmnmopkblopaaGreatDoorZs39
import Derived.Test.YtfkmnmopkblopaaGreatDoorZs40
import Derived.Test.YtfkmnmopkblopaaGreatDoorZs41
import Derived.Laws.BytesArg
import Derived.Deep.RegionHeld3
import Derived.Deep.MidRow
import Derived.BigQuiet
namespace Go.Proofs.YtfkmnmopkblopaaGreatDoor
set_option linter.unusedVariables false
set_option linter.unusedSimpArgs false
open Go.RowKit

theorem snsN_dead (zs P : List Int) (k : Nat) (h : (snsN zs P k).2 = false) : ∀ j, (snsN zs P (k + j)).2 = false
  | 0 => h
  | j + 1 => by
    have := snsN_dead zs P k h j
    rw [← Nat.add_assoc, snsN, stepS]
    split
    · exact this
    · simp [this]
theorem sns_not (zs : List Int) (k : Nat) (hc : choC zs = 0) (hk : k ≤ 31) (h : (snsN zs (snsP zs) k).2 = false) : snsC zs = 21 ∧ snsL zs = [] := by
  have := snsN_dead zs (snsP zs) k h (31 - k)
  rw [show k + (31 - k) = 31 by omega] at this
  unfold snsC snsL snsOk
  rw [hc, this]
  exact ⟨rfl, rfl⟩
theorem own_emptyS (w : World) (e : TypeId) (sz : Nat) : (w.alloc (.cells #[] e)).ownsRow w.heap.size e sz (.slice (some ⟨w.heap.size, 0, none⟩) 0 0) 0 [] :=
  ⟨by simp, .inr ⟨w.heap.size, 0, #[], rfl, Nat.le_refl _, heap_alloc_new w _, Nat.le_refl _, by simp, by simp, by simp⟩⟩
theorem own_some {w : World} {base : Nat} {e : TypeId} {v : Value} {n sz : Nat} {xs : List Value} (h : w.ownsRow base e sz v n xs) (hn : v ≠ .slice none 0 0) : ∃ g0 lc, v = .slice (some ⟨g0, 0, none⟩) n lc := by
  rcases h.2 with ⟨e, _⟩ | ⟨g0, lc, _, e, _⟩
  · exact absurd e hn
  · exact ⟨g0, lc, e⟩
/-- A list that grows, a snapshot beside it. -/
structure Nsn (w : World) (gC : Nat) (C : Array Value) (L : List (Array Value × ByteArray)) (v : Value) (W : World) : Prop where
  own : W.ownsRow w.heap.size 41 19 v L.length (rowSn L)
  old : Below w.heap.size w W
  blk : Blk W gC C 41
theorem Nsn.below {w W W' : World} {gC : Nat} {C : Array Value} {L : List (Array Value × ByteArray)} {v : Value} (h : Nsn w gC C L v W) (hb : Below W.heap.size W W') : Nsn w gC C L v W' :=
  ⟨own_below h.own hb, h.old.trans (hb.mono h.old.size), h.blk.below hb h.blk.lt⟩
theorem fsn_range {W : World} {g : Nat} {F : List Int} {t : TypeId} (h : Blk W g (cellsI F) t) : W.rangeAt g 37 ((F.drop 37).map (Value.int .i64)) := by
  intro j u hu
  rw [h.cell (37 + j), ← hu]
  simp [cellsI]
set_option maxRecDepth 100000 in
set_option maxHeartbeats 4000000 in
theorem specSns_any (v : Value) (zs : List Int) (w : World) (h : Rd .u8 w v zs) (hbd : ∀ z ∈ zs, 0 ≤ z ∧ z < 256) (hz : zs.length ≤ 1048576) :
    Calls Tryz.prog 4 #[v] w fun e w' => ∃ sv, e = .returned (.tuple #[sv, .int .i64 (snsC zs)]) ∧ w'.ownsRow w.heap.size 41 19 sv (snsL zs).length (rowSn (snsL zs)) ∧ Below w.heap.size w w' := by
  have H := hide (And.intro h hbd)
  obtain ⟨a, cap, rfl⟩ : ∃ a cap, v = .slice a zs.length cap := by obtain ⟨a, cap, h1, _⟩ := h; exact ⟨a, cap, h1⟩
  clear h hbd
  obtain ⟨i0, hi, hz0, hz1, hz2⟩ := infoSn4
  go_enter Tryz.func4, Tryz.ntmps4
  go_wp2_with (go_at_call 12; fail)
  refine (specCh_any _ zs _ H.out.1 H.out.2 (by omega)).mono ?_
  rintro e w1 ⟨rfl, b1⟩
  have HP := hide (show (choR zs).length = 68 ∧ (choC zs = 0 → ∀ p ∈ snsP zs, 0 ≤ p ∧ 512 * p.toNat + 512 ≤ zs.length) from by
    unfold snsP choR choC
    cases hs : szOk zs.length with
    | false => exact ⟨rfl, fun h => by simp at h⟩
    | true =>
      cases hc : chz zs 2 with
      | none => exact ⟨rfl, fun h => by simp at h⟩
      | some s => exact ⟨decFs_len _, fun _ => cho_ptrs zs s hs hc⟩)
  have HC0 := hide (show choC zs ≠ 0 → snsC zs = choC zs ∧ snsL zs = [] from fun h => by
    unfold snsC snsL snsOk
    rw [if_neg h, decide_eq_false h]
    exact ⟨rfl, rfl⟩)
  have HZ := hide (show (cellsI (choR zs)).size = 68 from by rw [cellsI_size]; exact HP.out.1)
  have HSP := hide (show snsP zs = (choR zs).drop 37 from rfl)
  have HN := hide (fun (k : Nat) (hc : choC zs = 0) => sns_not zs k hc)
  have KA := hide (show Blk (w1.alloc (.cells Tryz.zeroCells37 37)) w1.heap.size (cellsI noFs) 37 ∧ Below w1.heap.size w1 (w1.alloc (.cells Tryz.zeroCells37 37)) from ⟨Blk.new _ _ _, (Below.refl _ _).alloc (Nat.le_refl _) _⟩)
  have HFin := hide (show choC zs = 0 → (snsN zs (snsP zs) 31).2 = true → snsC zs = 0 ∧ snsL zs = (snsN zs (snsP zs) 31).1 from fun h1 h2 => by
    unfold snsC snsL snsOk
    rw [h1, h2]
    exact ⟨rfl, rfl⟩)
  have B1 := hide b1
  clear b1
  generalize choR zs = F at HP HZ HSP ⊢
  generalize choS zs = sl at *
  generalize choC zs = cc at HP HC0 HN HFin ⊢
  by_cases hcc : cc = 0
  · subst hcc
    obtain ⟨P, eP⟩ : ∃ P, P = F.drop 37 := ⟨_, rfl⟩
    have hPl : P.length = 31 := by rw [eP]; simp [HP.out.1]
    have HX := hide (fun (k : Nat) (hk : k < 31) (w : World) => index31 P k hPl hk w)
    have HPP := hide (show P.length = 31 ∧ (∀ p ∈ P, 0 ≤ p ∧ 512 * p.toNat + 512 ≤ zs.length) ∧ P = F.drop 37 from ⟨hPl, by rw [eP, ← HSP.out]; exact HP.out.2 rfl, eP⟩)
    have HNo := hide (show ∀ k, k ≤ 31 → (snsN zs P k).2 = false → snsC zs = 21 ∧ snsL zs = [] from by rw [eP, ← HSP.out]; exact fun k => HN.out k rfl)
    have HFn := hide (show (snsN zs P 31).2 = true → snsC zs = 0 ∧ snsL zs = (snsN zs P 31).1 from by rw [eP, ← HSP.out]; exact HFin.out rfl)
    clear eP hPl HP HSP HN HFin HC0
    go_wp2_with (first | (refine wpList_store_newS w1.heap.size w1 rfl 37 _ _ rfl w1.heap.size (cellsI F) rfl rfl 37 (cellsI noFs) KA.out.1 (by rw [HZ.out]; exact info68) (by rw [HZ.out]; rfl) (cellsI_one _) KA.out.2 (Nat.le_refl _) ?_; intro w2 k2 b2; have K2 := hide (show Blk (w2.alloc (.cells #[] 41)) w1.heap.size (cellsI F) 37 ∧ Below w.heap.size w (w2.alloc (.cells #[] 41)) ∧ (w2.alloc (.cells #[] 41)).ownsRow w.heap.size 41 19 (.slice (some ⟨w2.heap.size, 0, none⟩) 0 0) 0 [] from ⟨k2.alloc _, (B1.out.trans (b2.mono B1.out.size)).alloc (Nat.le_trans B1.out.size b2.size) _, own_mono (own_emptyS w2 _ 19) (Nat.le_trans B1.out.size b2.size)⟩); clear k2 b2) | (refine wpList_load_mid rfl 35 _ rfl w1.heap.size 37 rfl (P.map (Value.int .i64)) _ (by rw [HPP.out.2.2]; exact fsn_range K2.out.1) Tryz.underlying35 rfl (by rw [List.length_map, HPP.out.1]; exact info31) ?_))
    go_loopw [7, 26] (fun v i wr => ∃ k : Nat, k ≤ 31 ∧ i = .int .i64 (k : Int) ∧ (snsN zs P k).2 = true ∧ wr.ownsRow w.heap.size 41 19 v (snsN zs P k).1.length (rowSn (snsN zs P k).1) ∧ Below w.heap.size w wr ∧ v ≠ .slice none 0 0) (fun _ i _ => 31 - (intOf i).toNat)
    case atStart => exact ⟨0, Nat.zero_le _, rfl, rfl, K2.out.2.2, K2.out.2.1, by simp⟩
    case round =>
      clear K2 KA
      obtain ⟨k, hk, rfl, hok, hown, hb, hnil⟩ := hrel
      have HI := hide (And.intro hok (And.intro hown hb))
      have HNil := hide hnil
      obtain ⟨g0, lc, rfl⟩ := own_some hown hnil
      clear hok hown hb hnil
      by_cases hlt : k < 31
      · obtain ⟨n, hn⟩ : ∃ n : Nat, P.getD k 0 = (n : Int) := by
          have hm : P.getD k 0 ∈ P := by rw [List.getD_eq_getElem?_getD, List.getElem?_eq_getElem (by rw [HPP.out.1]; exact hlt)]; simp
          exact ⟨(P.getD k 0).toNat, by have := (HPP.out.2.1 _ hm).1; omega⟩
        have hix : ∀ w, (Instr.index 35 (.agg (P.map (Value.int .i64)).toArray) (.int .i64 k)).run Tryz.prog w = .ok (.int .i64 (n : Int)) w := fun w => by rw [HX.out k hlt w, hn]
        have HS := hide (show snsN zs P (k + 1) = stepS zs (snsN zs P k) k (n : Int) from by rw [snsN, hn])
        have hnl : 512 * n + 512 ≤ zs.length := by
          have hm : P.getD k 0 ∈ P := by rw [List.getD_eq_getElem?_getD, List.getElem?_eq_getElem (by rw [HPP.out.1]; exact hlt)]; simp
          have := (HPP.out.2.1 _ hm).2
          rw [hn] at this
          simpa using this
        clear hn
        by_cases hn0 : n = 0
        · subst hn0
          go_wp2_with fail
          go_roundw
          case rel =>
            refine ⟨k + 1, by omega, by go_num, ?_⟩
            have e : snsN zs P (k + 1) = snsN zs P k := by rw [HS.out, stepS]; simp
            rw [e]
            exact ⟨HI.out.1, HI.out.2.1, HI.out.2.2, by simp⟩
          case measure => simp [intOf]; omega
        · have hn1 : ¬ ((n : Int) = 0) := by omega
          go_wp2_with (go_at_call 14; fail)
          refine (l09At_any _ zs n _ (H.out.1.below HI.out.2.2) hnl (by omega)).mono ?_
          rintro e w3 ⟨sv, rfl, hsv, rfl⟩
          have HV := hide hsv
          clear hsv
          go_wp2_with (go_at_call 13; fail)
          refine (specDS_any sv (blkZ zs n) _ HV.out (blkZ_bd H.out.2 n)).mono ?_
          rintro e w4 ⟨rfl, b4⟩
          have HS2 := hide (show snsN zs P (k + 1) = ((snsN zs P k).1 ++ [(decSn (blkZ zs n), nmD (blkZ zs n))], (((codeDS (blkZ zs n) == 0) && (plD (blkZ zs n) == (k : Int) + 1)) && !hasN (snsN zs P k).1 (nmD (blkZ zs n)))) from by rw [HS.out, stepS, if_neg hn1, HI.out.1]; simp)
          have HC := hide (And.intro (decSn_is (blkZ zs n)) (decSn_pl (blkZ zs n)))
          have HA := hide (And.intro (snsN_all zs P k) (snsN_len zs P k))
          have K4 := hide (show w4.ownsRow w.heap.size 41 19 (.slice (some ⟨g0, 0, none⟩) (snsN zs P k).1.length lc) (snsN zs P k).1.length (rowSn (snsN zs P k).1) ∧ Below w.heap.size w w4 from ⟨own_below HI.out.2.1 b4, HI.out.2.2.trans (b4.mono HI.out.2.2.size)⟩)
          clear b4 HV HS HI
          generalize decSn (blkZ zs n) = C at HC HS2 ⊢
          generalize nmD (blkZ zs n) = nm at HC HS2 ⊢
          generalize codeDS (blkZ zs n) = cd at HC HS2 ⊢
          generalize plD (blkZ zs n) = pl at HC HS2 ⊢
          generalize hsn : snsN zs P k = sn at HS2 HA K4 ⊢
          obtain ⟨L, ok⟩ := sn
          clear hsn
          have hk1 : (-9223372036854775808 : Int) ≤ (k : Int) + 1 ∧ (k : Int) + 1 ≤ 9223372036854775807 := by omega
          have KA := hide (show Blk (w4.alloc (.cells zSn 41)) w4.heap.size zSn 41 ∧ Below w4.heap.size w4 (w4.alloc (.cells zSn 41)) from ⟨Blk.new _ _ _, (Below.refl _ _).alloc (Nat.le_refl _) _⟩)
          by_cases hcd : cd = 0
          · subst hcd
            by_cases hpl : pl = (k : Int) + 1
            · subst hpl
              go_wp2_with (first | (refine wpList_store_newS w4.heap.size w4 rfl 41 _ _ rfl w4.heap.size C rfl rfl 41 zSn KA.out.1 (by rw [HC.out.1.size]; exact infoSn) (by rw [HC.out.1.size]; rfl) HC.out.1.one KA.out.2 (Nat.le_refl _) ?_; intro w5 k5 b5; have c5 := (k5.cell 0).trans HC.out.2; have K5 := hide (show Nsn w w4.heap.size C L (.slice (some ⟨g0, 0, none⟩) L.length lc) w5 from ⟨own_below K4.out.1 b5, K4.out.2.trans (b5.mono K4.out.2.size), k5⟩); clear k5 b5))
              clear c5
              go_loopw [50] (fun i wi => ∃ j : Nat, j ≤ L.length ∧ i = .int .i64 (j : Int) ∧ hasN (L.take j) nm = false ∧ Nsn w w4.heap.size C L (.slice (some ⟨g0, 0, none⟩) L.length lc) wi) (fun i _ => L.length - (intOf i).toNat)
              case atStart => exact ⟨0, Nat.zero_le _, rfl, rfl, K5.out⟩
              case round =>
                clear K5 K4 KA
                obtain ⟨j, hj, rfl, hno, hN⟩ := hrel
                have HJ := hide (And.intro hno hN)
                clear hno hN
                by_cases hjl : j < L.length
                · obtain ⟨x, hx⟩ : ∃ x, L[j]? = some x := ⟨_, List.getElem?_eq_getElem hjl⟩
                  obtain ⟨g, off, e0, hg, hrg⟩ := (rdSn_own (L := L) HA.out.1 HJ.out.2.own).at hx
                  cases e0
                  rw [Nat.zero_add] at hrg
                  have hLL : L.length ≤ 31 := Nat.le_trans HA.out.2 hk
                  have HSx := hide (And.intro (HA.out.1 x (List.mem_of_getElem? hx)) (And.intro hrg hx))
                  have HT := hide (show hasN (L.take (j + 1)) nm = (x.2.toList == nm.toList) from by
                    have e : L.take (j + 1) = L.take j ++ [x] := by rw [List.take_add_one, hx]; rfl
                    have h0 := HJ.out.1
                    unfold hasN at h0 ⊢
                    rw [e, List.any_append, h0]
                    simp)
                  have KB := hide (show Blk (wr.alloc (.cells zSn 41)) wr.heap.size zSn 41 ∧ Below wr.heap.size wr (wr.alloc (.cells zSn 41)) from ⟨Blk.new _ _ _, (Below.refl _ _).alloc (Nat.le_refl _) _⟩)
                  clear hrg hx
                  cases hzz : (x.2.toList == nm.toList) with
                  | true =>
                    have HE := hide (HNo.out (k + 1) (by omega) (by
                      rw [HS2.out]
                      have : hasN L nm = true := List.any_eq_true.2 ⟨x, List.mem_of_getElem? HSx.out.2.2, hzz⟩
                      simp [this]))
                    go_wp2_with (first | (refine wpList_load_mid rfl 41 _ rfl g0 (j * 19) rfl x.1.toList _ HSx.out.2.1 Tryz.underlying41 rfl (by rw [Array.length_toList, HSx.out.1.size]; exact infoSn) ?_) | (refine wpList_store_newS wr.heap.size wr rfl 41 _ _ rfl wr.heap.size x.1 rfl rfl 41 zSn KB.out.1 (by rw [HSx.out.1.size]; exact infoSn) (by rw [HSx.out.1.size]; rfl) HSx.out.1.one KB.out.2 (Nat.le_refl _) ?_; intro w6 k6 b6; have c6 := (k6.cell 1).trans HSx.out.1.name; have K6 := hide (HJ.out.2.below b6); have d6 := (K6.out.blk.cell 1).trans HC.out.1.name; clear k6 b6))
                    go_ret2
                    rw [HE.out.1, HE.out.2]
                    exact ⟨_, rfl, World.ownsRow_nil _ _ _ _, K6.out.old⟩
                  | false =>
                    go_wp2_with (first | (refine wpList_load_mid rfl 41 _ rfl g0 (j * 19) rfl x.1.toList _ HSx.out.2.1 Tryz.underlying41 rfl (by rw [Array.length_toList, HSx.out.1.size]; exact infoSn) ?_) | (refine wpList_store_newS wr.heap.size wr rfl 41 _ _ rfl wr.heap.size x.1 rfl rfl 41 zSn KB.out.1 (by rw [HSx.out.1.size]; exact infoSn) (by rw [HSx.out.1.size]; rfl) HSx.out.1.one KB.out.2 (Nat.le_refl _) ?_; intro w6 k6 b6; have c6 := (k6.cell 1).trans HSx.out.1.name; have K6 := hide (HJ.out.2.below b6); have d6 := (K6.out.blk.cell 1).trans HC.out.1.name; clear k6 b6))
                    go_roundw
                    case rel => exact ⟨j + 1, by omega, by go_num, HT.out.trans hzz, K6.out⟩
                    case measure => simp [intOf]; omega
                · have hjL : j = L.length := by omega
                  subst hjL
                  have HOk := hide (show (snsN zs P (k + 1)).2 = true from by
                    rw [HS2.out]
                    have h0 := HJ.out.1
                    rw [List.take_length] at h0
                    simp [h0])
                  have hLL : L.length ≤ k := HA.out.2
                  go_wp2_with (first | (refine wpList_load_row rfl 41 _ rfl w4.heap.size rfl 41 C (0, 0) _ HJ.out.2.blk Tryz.underlying41 rfl (by rw [HC.out.1.size]; exact infoSn) ?_) | (refine wpList_build1S rfl 23 41 _ rfl C rfl i0 _ Tryz.underlying23 hi hz0 (by rw [hz1, HC.out.1.size]) (by rw [HC.out.1.size]; omega) (by rw [HC.out.1.size]; omega) ?_) | (at_builtin; refine wpList_append_own_at _ rfl (.tmp 60) (.tmp 62) 23 rfl w.heap.size 41 i0 (.agg zSn) 19 160 Tryz.underlying23 hi hz0 hz1 hz2 rfl (by decide) (.slice (some ⟨g0, 0, none⟩) L.length lc) L.length (rowSn L) rfl (HJ.out.2.own.alloc _) ⟨wr.heap.size, 0, none⟩ 1 1 C.toList rfl (by rw [Array.length_toList, HC.out.1.size]) (cells_newS wr C _) (fun u hu => Array.all_eq_true_iff_forall_mem.1 HC.out.1.one u (Array.mem_toList_iff.1 hu)) (by unfold maxLen; omega) (by omega) (by have := HJ.out.2.old.size; simp; omega) ?_; intro va wa oa ga na ba))
                  have HW := hide (show (snsN zs P (k + 1)).2 = true ∧ wa.ownsRow w.heap.size 41 19 va (snsN zs P (k + 1)).1.length (rowSn (snsN zs P (k + 1)).1) ∧ Below w.heap.size w wa ∧ va ≠ .slice none 0 0 from by
                    have h0 := HJ.out.2.below ((Below.refl _ _).alloc (Nat.le_refl _) (.cells C 41))
                    refine ⟨HOk.out, ?_, h0.old.grown ga h0.old.size (fun q e => (h0.own.lt q e).1), fun e => by have := (na.1 e).2; omega⟩
                    rw [HS2.out]
                    show wa.ownsRow w.heap.size 41 19 va (L ++ [(C, nm)]).length (rowSn (L ++ [(C, nm)]))
                    rw [rowSn_append, List.length_append, show rowSn [(C, nm)] = C.toList from by simp [rowSn]]
                    exact oa)
                  clear oa ga ba na
                  go_wp2
                  go_roundw
                  case rel => exact ⟨k + 1, by omega, by go_num, HW.out⟩
                  case measure => simp [intOf]; omega
            · have HE := hide (HNo.out (k + 1) (by omega) (by rw [HS2.out]; simp [hpl]))
              have hpb : (pl != (k : Int) + 1) = true := by simpa using hpl
              go_wp2_with (first | (refine wpList_store_newS w4.heap.size w4 rfl 41 _ _ rfl w4.heap.size C rfl rfl 41 zSn KA.out.1 (by rw [HC.out.1.size]; exact infoSn) (by rw [HC.out.1.size]; rfl) HC.out.1.one KA.out.2 (Nat.le_refl _) ?_; intro w5 k5 b5; have c5 := (k5.cell 0).trans HC.out.2; have K5 := hide (K4.out.2.trans (b5.mono K4.out.2.size)); clear k5 b5))
              go_ret2
              rw [HE.out.1, HE.out.2]
              exact ⟨_, rfl, World.ownsRow_nil _ _ _ _, K5.out⟩
          · have HE := hide (HNo.out (k + 1) (by omega) (by rw [HS2.out]; simp [hcd]))
            have hcb : (cd != 0) = true := by simpa using hcd
            go_wp2_with (first | (refine wpList_store_newS w4.heap.size w4 rfl 41 _ _ rfl w4.heap.size C rfl rfl 41 zSn KA.out.1 (by rw [HC.out.1.size]; exact infoSn) (by rw [HC.out.1.size]; rfl) HC.out.1.one KA.out.2 (Nat.le_refl _) ?_; intro w5 k5 b5; have K5 := hide (K4.out.2.trans (b5.mono K4.out.2.size)); clear k5 b5))
            go_ret2
            rw [HE.out.1, HE.out.2]
            exact ⟨_, rfl, World.ownsRow_nil _ _ _ _, K5.out⟩
      · obtain rfl : k = 31 := by omega
        have HE := hide (HFn.out HI.out.1)
        go_wp2_with fail
        go_ret2
        rw [HE.out.1, HE.out.2]
        exact ⟨_, rfl, HI.out.2.1, HI.out.2.2⟩
  · have hcb : (cc != 0) = true := by simpa using hcc
    go_wp2_with (first | (refine wpList_store_newS w1.heap.size w1 rfl 37 _ _ rfl w1.heap.size (cellsI F) rfl rfl 37 (cellsI noFs) KA.out.1 (by rw [HZ.out]; exact info68) (by rw [HZ.out]; rfl) (cellsI_one _) KA.out.2 (Nat.le_refl _) ?_; intro w2 k2 b2; have K2 := hide (B1.out.trans (b2.mono B1.out.size)); clear k2 b2) | fail)
    go_ret2
    rw [(HC0.out hcc).1, (HC0.out hcc).2]
    exact ⟨_, rfl, World.ownsRow_nil _ _ _ _, K2.out⟩
end Go.Proofs.YtfkmnmopkblopaaGreatDoor

namespace Go.Proofs.YtfkmnmopkblopaaGreatDoor
set_option linter.unusedVariables false
set_option linter.unusedSimpArgs false
open Go.RowKit

/-- The decimal signs of q, ahead of t. -/
def digsS : Nat → Nat → ByteArray → ByteArray
  | 0, _, t => t
  | f + 1, q, t => if q = 0 then t else digsS f (q / 10) (strOfNums [48 + (q : Int) % 10] ++ t)
theorem digsS_zero (f : Nat) (t : ByteArray) : digsS f 0 t = t := by cases f <;> simp [digsS]
theorem digsS_step (f q : Nat) (t : ByteArray) (h : q ≠ 0) : digsS (f + 1) q t = digsS f (q / 10) (strOfNums [48 + (q : Int) % 10] ++ t) := by simp [digsS, h]
def mtS (m : Nat) : ByteArray := ⟨#[109]⟩ ++ digsS m m ⟨#[]⟩
theorem markTextS_any (m : Nat) (w : World) (h1 : 1 ≤ m) (h2 : m ≤ 100000) :
    Calls Tryz.prog 20 #[.int .i64 (m : Int)] w fun e w' => e = .returned (.string (mtS m)) ∧ Below w.heap.size w w' := by
  go_enter Tryz.func20, Tryz.ntmps20
  go_wp2
  go_loopw [0, 3] (fun a t wr => ∃ (q f : Nat) (x : ByteArray), a = .int .i64 (q : Int) ∧ t = .string x ∧ q ≤ f ∧ digsS f q x = digsS m m ⟨#[]⟩ ∧ x.size + q ≤ m ∧ Below w.heap.size w wr) (fun a _ _ => (intOf a).toNat)
  case atStart => exact ⟨m, m, ⟨#[]⟩, rfl, rfl, Nat.le_refl _, rfl, by simp [ByteArray.size], Below.refl _ _⟩
  case round =>
    obtain ⟨q, f, x, rfl, rfl, hqf, hd, hx, hb⟩ := hrel
    have HB := hide (And.intro hb hd)
    have hsz := hb.size
    clear hb hd
    by_cases hq : 0 < q
    · obtain ⟨f', rfl⟩ : ∃ f', f = f' + 1 := ⟨f - 1, by omega⟩
      have HD := hide ((digsS_step f' q x (by omega)).symm.trans HB.out.2)
      have hcv : (convert 22 9 (.slice (some ⟨wr.heap.size, 0, none⟩) 1 1)).run Tryz.prog (wr.alloc (.cells #[.int .u8 (48 + (q : Int) % 10)] 5)) = .ok (.string (strOfNums [48 + (q : Int) % 10])) (wr.alloc (.cells #[.int .u8 (48 + (q : Int) % 10)] 5)) :=
        run_convert_bytes_arg _ 22 5 Tryz.underlying22 Tryz.underlying5 wr.heap.size 0 1 1 [48 + (q : Int) % 10] rfl (fun i hi => by
          obtain rfl : i = 0 := by simp at hi; omega
          simp) 9 Tryz.underlying9
      have hs1 : (strOfNums [48 + (q : Int) % 10]).size = 1 := strOfNums_size _
      generalize strOfNums [48 + (q : Int) % 10] = y at hcv HD hs1
      have hcat : ¬ 9223372036854775807 < y.size + x.size := by omega
      have HS := hide (show (y ++ x).size + q / 10 ≤ m from by rw [ByteArray.size_append]; omega)
      go_wp2_with fail
      go_roundw
      case rel => exact ⟨q / 10, f', y ++ x, by go_num, rfl, by omega, HD.out, HS.out, HB.out.1.alloc hsz _⟩
      case measure => simp [intOf]; omega
    · obtain rfl : q = 0 := by omega
      have HD := hide ((digsS_zero f x).symm.trans HB.out.2)
      go_wp2
      go_ret
      refine ⟨ret_val ?_, HB.out.1⟩
      unfold mtS
      rw [← HD.out]
      rfl


/-- The mark of cell i: marks count the cells, from 1 on; a name's is a text. -/
def mkv (i : Nat) : Value := if i % 19 = 1 then .string (mtS (1 + i)) else .int .i64 (1 + (i : Int))
theorem mkv_int (z : Int) (m : Nat) (hz : z = 1 + (m : Int)) (hm : m % 19 ≠ 1) : Value.int .i64 z = mkv m := by unfold mkv; rw [if_neg hm, hz]
theorem mkv_str (m : Nat) (hm : m % 19 = 1) : Value.string (mtS (1 + m)) = mkv m := by unfold mkv; rw [if_pos hm]
theorem mkv_one (i : Nat) : (mkv i).oneCell' = true := by unfold mkv; split <;> rfl
/-- Of the N cells of block g the first m are marked; since W0 nothing else that was there has turned. -/
def MkS (W0 w : World) (g N m : Nat) : Prop :=
  (∀ i, i < N → ∃ u, w.cell? ⟨g, i, none⟩ = some u ∧ (i < m → u = mkv i)) ∧ (∀ i, w.frozen? ⟨g, i, none⟩ = false) ∧ W0.grownBy w (some g)
theorem MkS.step {W0 w : World} {g N m : Nat} (h : MkS W0 w g N m) (hg : g < W0.heap.size) (hm : m < N) : MkS W0 (w.setCell ⟨g, m, none⟩ (mkv m)) g N (m + 1) := by
  refine ⟨fun i hi => ?_, fun i => by rw [World.frozen?_setCell]; exact h.2.1 i, grownBy_trans h.2.2 ⟨rfl, rfl, rfl, by simp, fun k hk hn => Below.heap_setCell w _ _ k (fun h => hn (by rw [h]))⟩⟩
  obtain ⟨u, hu, hm2⟩ := h.1 i hi
  by_cases e : i = m
  · subst e
    exact ⟨_, World.cell?_setCell_same _ _ _ hu, fun _ => rfl⟩
  · refine ⟨u, ?_, fun hl => hm2 (by omega)⟩
    rw [World.cell?_setCell_other _ _ _ _ (by intro q; injection q with q1 q2; exact e q2.symm)]
    exact hu
theorem MkS.below {W0 w w' : World} {g N m : Nat} (h : MkS W0 w g N m) (hg : g < W0.heap.size) (hb : Below w.heap.size w w') : MkS W0 w' g N m := by
  have hl : g < w.heap.size := Nat.lt_of_lt_of_le hg h.2.2.size
  exact ⟨fun i hi => by obtain ⟨u, hu, h2⟩ := h.1 i hi; exact ⟨u, (hb.cell (p := ⟨g, i, none⟩) hl).trans hu, h2⟩, fun i => (hb.frozen (p := ⟨g, i, none⟩) hl).trans (h.2.1 i), grownBy_trans h.2.2 ⟨hb.os, hb.tape, hb.output, hb.size, fun k hk _ => hb.block k hk⟩⟩
section
variable {P : Program}
theorem wpList_markS {ops : Array Oper} {rest : List Oper} {o : Oper} {a : Act} {w : World} {Q : Exit → Act → World → Prop} {W0 : World} {g N m : Nat} (hM : MkS W0 w g N m) (hgd : o.guard = none) (ty : TypeId) (x y : Operand) (ho : o.op = .store ty x y)
    (q : Nat) (hx : a.eval x = .pointer (some ⟨g, q, none⟩)) (u : Value) (hy : a.eval y = u) (hi : (P.info? ty).map (·.size) = some 1) (hq : q = m) (hz : u = mkv m) (hcs : u.cells = #[u]) (hg : g < W0.heap.size) (hm : m < N)
    (h : ∀ w2, MkS W0 w2 g N (m + 1) → wpList P ops Q rest (a.put o.dst undef) w2) : wpList P ops Q (o :: rest) a w := by
  subst hq hz
  obtain ⟨u0, hu0, _⟩ := hM.1 q hm
  refine wpList_plain hgd fun _ hK => ?_
  have hst : (storeVar ty ⟨g, q, none⟩ (mkv q)).run P w = .ok () (w.setCell ⟨g, q, none⟩ (mkv q)) := by
    have := run_storeCells_cells (P := P) g q [mkv q] 0 w (by intro j hj; simp at hj; subst hj; simp [hu0]) (by intro j hj; simp at hj; subst hj; simpa using hM.2.1 q) (by intro v hv; simp at hv; subst hv; exact mkv_one q)
    cases hq : P.info? ty with
    | none => simp [hq] at hi
    | some i =>
      have hs : i.size = 1 := by simpa [hq] using hi
      simp [World.setCells] at this
      simp [storeVar, sizeOf, typeInfo, hq, hcs, hs, this]
  unfold Oper.wp execOp
  simp only [ho, hx, hy, Instr.storeAt, Instr.sureAddr, Sem.run_bind, Sem.run_pure, Result.andThen_ok, hst]
  exact hK _ _ (h _ (hM.step hg hm))
end
theorem infoI1 : (Tryz.prog.info? 3).map (·.size) = some 1 := by kernel_rfl
theorem infoS1 : (Tryz.prog.info? 9).map (·.size) = some 1 := by kernel_rfl
theorem markTextZ (z : Int) (m : Nat) (w : World) (hz : z = (m : Int)) (h1 : 1 ≤ m) (h2 : m ≤ 100000) :
    Calls Tryz.prog 20 #[.int .i64 z] w fun e w' => e = .returned (.string (mtS m)) ∧ Below w.heap.size w w' := by
  subst hz
  exact markTextS_any m w h1 h2
/-- A list whose cells are all marked. -/
def Mkd (W : World) (v : Value) (n : Nat) : Prop := ∃ a cap, v = .slice a n cap ∧ (0 < n → ∃ g, a = some ⟨g, 0, none⟩ ∧ g < W.heap.size ∧ ∀ i, i < n * 19 → W.cell? ⟨g, i, none⟩ = some (mkv i))
theorem Mkd.below {W W' : World} {v : Value} {n : Nat} (h : Mkd W v n) (hb : Below W.heap.size W W') : Mkd W' v n := by
  obtain ⟨a, cap, rfl, h2⟩ := h
  refine ⟨a, cap, rfl, fun hn => ?_⟩
  obtain ⟨g, e, hg, hc⟩ := h2 hn
  exact ⟨g, e, Nat.lt_of_lt_of_le hg hb.size, fun i hi => (hb.cell (p := ⟨g, i, none⟩) hg).trans (hc i hi)⟩
set_option maxRecDepth 100000 in
set_option maxHeartbeats 1000000 in
theorem markSnapS_any (v : Value) (base n : Nat) (xs : List Value) (w : World) (h : w.ownsRow base 41 19 v n xs) (hn : n ≤ 31) :
    Calls Tryz.prog 10 #[v, .int .i64 1] w fun e w' => e = .returned (.int .i64 (1 + ((n * 19 : Nat) : Int))) ∧ Mkd w' v n ∧ w.grownBy w' v.ownBlock := by
  rcases Nat.eq_zero_or_pos n with h0 | h0
  · subst h0
    obtain ⟨a, cap, rfl⟩ := ownS_shape h
    clear h
    go_enter Tryz.func10, Tryz.ntmps10
    go_wp2
    go_loop [1, 5] (fun kk ii => kk = .int .i64 1 ∧ ii = .int .i64 0) (fun _ _ => 0)
    case atStart => exact ⟨rfl, rfl⟩
    case round =>
      obtain ⟨rfl, rfl⟩ := hrel
      go_wp2
      go_ret
      exact ⟨rfl, ⟨a, cap, rfl, fun h => by omega⟩, World.grownBy.refl _ _⟩
  · have hl := h.1
    have hh := h
    obtain ⟨_, h2⟩ := h
    rcases h2 with ⟨rfl, h2⟩ | ⟨g, cap, cur, rfl, hb, hg, hnc, hcm, hcs, htake⟩
    · omega
    · have hgl : g < w.heap.size := (Array.getElem?_eq_some_iff.1 hg).1
      have M0 := hide (show MkS w w g (n * 19) 0 from ⟨fun i hi => by
        have e : xs[i]? = some (xs[i]'(by omega)) := List.getElem?_eq_getElem (by omega)
        have := hh.cells rfl i _ e
        rw [Addr.add_mid, Nat.zero_add] at this
        exact ⟨_, this, fun h => by omega⟩, fun i => frozen_of_row w g i cur _ hg, World.grownBy.refl _ _⟩)
      clear hb hg hcs htake hh
      go_enter Tryz.func10, Tryz.ntmps10
      go_wp2
      go_loopw [1, 5] (fun kk ii wr => ∃ i : Nat, i ≤ n ∧ ii = .int .i64 i ∧ kk = .int .i64 (1 + ((i * 19 : Nat) : Int)) ∧ MkS w wr g (n * 19) (i * 19)) (fun _ ii _ => n - (intOf ii).toNat)
      case atStart => exact ⟨0, by omega, rfl, rfl, by simpa using M0.out⟩
      case round =>
        clear M0
        obtain ⟨i, hi, rfl, rfl, hM⟩ := hrel
        have HM := hide hM
        clear hM
        by_cases hlt : i < n
        · go_wp2_with (first | (refine wpList_markS HM.out rfl 3 _ _ rfl _ rfl _ rfl infoI1 (by omega) (mkv_int _ _ (by omega) (by omega)) rfl hgl (by omega) ?_; intro w2 h2; have HM := hide h2; clear h2) | (refine wpList_markS HM.out rfl 9 _ _ rfl _ rfl _ rfl infoS1 (by omega) (mkv_str _ (by omega)) rfl hgl (by omega) ?_; intro w2 h2; have HM := hide h2; clear h2) | (go_at_call 20; refine (markTextZ _ (1 + (i * 19 + 1)) _ (by omega) (by omega) (by omega)).mono ?_; rintro e w3 ⟨rfl, b3⟩; have HM := hide (HM.out.below hgl b3); clear b3))
          have HM0 := hide (show MkS w w2 g (n * 19) (i * 19 + 5 + 0) from HM.out)
          go_loopw [1, 6] (fun kk jj wr => ∃ j : Nat, j ≤ 12 ∧ jj = .int .i64 j ∧ kk = .int .i64 (1 + ((i * 19 + 5 + j : Nat) : Int)) ∧ MkS w wr g (n * 19) (i * 19 + 5 + j)) (fun _ jj _ => 12 - (intOf jj).toNat)
          case atStart => exact ⟨0, by omega, rfl, by go_num, HM0.out⟩
          case round =>
            clear HM0
            obtain ⟨j, hj, rfl, rfl, hM⟩ := hrel
            have HM := hide hM
            clear hM
            by_cases hjt : j < 12
            · go_wp2_with (first | (refine wpList_markS HM.out rfl 3 _ _ rfl _ rfl _ rfl infoI1 (by omega) (mkv_int _ _ (by omega) (by omega)) rfl hgl (by omega) ?_; intro w2 h2; have HM := hide h2; clear h2))
              go_roundw
              case rel => exact ⟨j + 1, by omega, by go_num, by go_num, HM.out⟩
              case measure => simp [intOf]; omega
            · have hj12 : j = 12 := by omega
              subst hj12
              go_wp2_with (first | (refine wpList_markS HM.out rfl 3 _ _ rfl _ rfl _ rfl infoI1 (by omega) (mkv_int _ _ (by omega) (by omega)) rfl hgl (by omega) ?_; intro w2 h2; have HM := hide h2; clear h2))
              have HM2 := hide (show MkS w w2 g (n * 19) ((i + 1) * 19) from by
                have h := HM.out
                rw [show i * 19 + 5 + 12 + 1 + 1 = (i + 1) * 19 by omega] at h
                exact h)
              go_roundw
              case rel => exact ⟨i + 1, by omega, by go_num, by go_num, HM2.out⟩
              case measure => simp [intOf]; omega
        · have hin : i = n := by omega
          subst hin
          go_wp2
          go_ret
          refine ⟨by go_num, ⟨some ⟨g, 0, none⟩, cap, rfl, fun _ => ⟨g, rfl, Nat.lt_of_lt_of_le hgl HM.out.2.2.size, fun x hx => ?_⟩⟩, HM.out.2.2⟩
          obtain ⟨u, hu, h2⟩ := HM.out.1 x hx
          rw [hu, h2 hx]
end Go.Proofs.YtfkmnmopkblopaaGreatDoor
