/- The model's CpSteps. -/
import Derived.Test.YtmmhkjpkidljlaaDoorZc38
namespace Go.Proofs.YtmmhkjpkidljlaaDoor
set_option linter.unusedVariables false
set_option linter.unusedSimpArgs false
open Go.RowKit

theorem recOwn {w1 : World} {base : Nat} (slot : Nat) {enc : List Int} {a1 : Option Addr} {c1 : Nat} (h : w1.ownsRow base 5 1 (.slice a1 enc.length c1) enc.length (enc.map (Value.int .u8))) (hb : base ≤ w1.heap.size) :
    OwnN (w1.alloc (.cells #[.int .i64 2, .int .i64 (slot : Int), .slice a1 enc.length c1, .int .i64 3, .int .i64 0, .slice none 0 0] 54)) base 54 2 (.slice (some ⟨w1.heap.size, 0, none⟩) 2 2) ((recL slot enc).map neD) [.slice a1 enc.length c1, .slice none 0 0] := by
  refine ⟨rfl, neD_pre _, ?_, fun i u l hu hl => ?_, fun i j u u' b hu hu' hb hb' => ?_⟩
  · exact World.ownsRow_lit (base := base) (e := 54) (size := 3) w1 #[.int .i64 2, .int .i64 (slot : Int), .slice a1 enc.length c1, .int .i64 3, .int .i64 0, .slice none 0 0] 2 hb (by unfold maxLen; omega) rfl
  · match i, hu, hl with
    | 0, hu, hl =>
      simp at hu
      subst hu
      have e : neD (2, (slot : Int), enc) = l := Option.some.inj hl
      subst e
      exact own_below h ((Below.refl _ _).alloc (Nat.le_refl _) _)
    | 1, hu, hl =>
      simp at hu
      subst hu
      have e : neD (3, 0, []) = l := Option.some.inj hl
      subst e
      exact ⟨rfl, .inl ⟨rfl, rfl⟩⟩
    | n + 2, hu, hl => simp at hu
  · match i, j, hu, hu' with
    | 0, 0, _, _ => rfl
    | 1, _, hu, _ =>
      simp at hu
      subst hu
      cases hb
    | _, 1, _, hu' =>
      simp at hu'
      subst hu'
      cases hb'
    | n + 2, _, hu, _ => simp at hu
    | _, n + 2, _, hu' => simp at hu'
/-- In the midst of the model's CpSteps: the record's block too. -/
structure ID (w wr : World) (v : Value) (F : List Int) (st : Value) (S : List (Int × Int × List Int)) (vs : List Value) (ve : Value) (enc : List Int) : Prop where
  ic : IC w wr v F st S vs
  enc : wr.ownsRow (w.heap.size + 1) 5 1 ve enc.length (enc.map (Value.int .u8))
theorem ID.below {w wr w' : World} {v : Value} {F : List Int} {st : Value} {S : List (Int × Int × List Int)} {vs : List Value} {ve : Value} {enc : List Int} (h : ID w wr v F st S vs ve enc) (hb : Below wr.heap.size wr w') : ID w w' v F st S vs ve enc := ⟨h.ic.below hb, own_below h.enc hb⟩
theorem ID.grew {w wr w2 w' : World} {v : Value} {F : List Int} {st st' : Value} {S S' : List (Int × Int × List Int)} {vs vs' : List Value} {ve : Value} {enc : List Int} (h : ID w wr v F st S vs ve enc) (ho : OwnN w' (w.heap.size + 1) 54 2 st' (S'.map neD) vs') (hb : Below wr.heap.size wr w2) (hg : w2.grownBy w' st.ownBlock) : ID w w' v F st' S' vs' ve enc := by
  have h2 := h.below hb
  exact ⟨h.ic.grew ho hb hg, h2.enc.kept hg (own_apart h2.enc h2.ic.own.row (by decide))⟩

set_option maxRecDepth 100000 in
set_option maxHeartbeats 8000000 in
theorem specCp_any (v : Value) (Q : List (Int × List Int)) (us : List Value) (F : List Int) (r : Bool) (enc : List Int) (w : World) (h : RdN w 1 v (Q.map neP) us) (hF : FsK F r enc) (hq : Q.length ≤ 1048576) (hb : ∀ p ∈ Q, p.2.length ≤ 1048576) :
    Calls Tryd.prog 5 #[.agg (cpC v F)] w fun e w' => ∃ st vs, e = .returned (.tuple #[st, .int .i64 (if r = true then 0 else 7)]) ∧ OwnN w' w.heap.size 54 2 st ((if r = true then stepsL Q enc 2 else []).map neD) vs ∧ Below w.heap.size w w' := by
  obtain ⟨i0, hi, hz0, hz1, hz2⟩ := info_parts infoDz
  obtain ⟨i1, hi1, hy0, hy1, hy2⟩ := info_parts infoU8
  obtain ⟨a, cap, rfl⟩ : ∃ a cap, v = .slice a Q.length cap := by obtain ⟨a, cap, e, _⟩ := h.row; exact ⟨a, cap, by simpa using e⟩
  have hm : Q.length ≤ 9223372036854775807 := by omega
  have HQ := hide (show RdN w 1 (.slice a (Q.map neP).length cap) (Q.map neP) us from by simpa using h)
  have HF := hide hF
  have HB := hide hb
  have HZF := hide (show (F.map (Value.int .i64)).length = 68 by rw [List.length_map]; exact hF.len)
  have hes := hF.small
  have K0 := hide (And.intro (Blk.new w (cpC (.slice a Q.length cap) F) 40) (show Below w.heap.size w (w.alloc (.cells (cpC (.slice a Q.length cap) F) 40)) from (Below.refl _ _).alloc (Nat.le_refl _) _))
  clear h hF hb
  go_enter Tryd.func5, Tryd.ntmps5
  go_wp2_with (first | (refine wpList_load_mid rfl 38 _ rfl w.heap.size 1 rfl (F.map (Value.int .i64)) _ (cp_range K0.out.1) Tryd.underlying38 rfl (by rw [HZF.out]; exact info68) ?_) | fail)
  refine (HF.out.spec _).mono ?_
  rintro e w1 ⟨ve, rfl, o1, b1⟩
  have K1 := hide (And.intro (K0.out.1.below b1 K0.out.1.lt) (And.intro (K0.out.2.trans (b1.mono K0.out.2.size)) (own_mono o1 (show w.heap.size + 1 ≤ _ by simp))))
  obtain ⟨ae, ce, rfl⟩ := own_shape o1
  clear o1 b1 K0
  cases r with
  | false =>
    rw [if_neg (show ¬ (false = true) by decide)]
    go_wp2
    go_ret2
    first
    | exact ⟨_, _, rfl, OwnN.nil _ _ _ _, K1.out.2.1⟩
    | exact ⟨_, rfl, ⟨_, OwnN.nil _ _ _ _⟩, K1.out.2.1⟩
    | exact ⟨_, ⟨_, OwnN.nil _ _ _ _⟩, K1.out.2.1⟩
    | exact ⟨⟨_, OwnN.nil _ _ _ _⟩, K1.out.2.1⟩
  | true =>
    rw [if_pos rfl]
    have hw1 : w.heap.size < w1.heap.size := K1.out.1.lt
    have I1 := hide (show ID w (w1.alloc (.cells #[] 54)) (.slice a Q.length cap) F (.slice (some ⟨w1.heap.size, 0, none⟩) 0 0) ((Q.take 0).map stD) [] (.slice ae enc.length ce) enc from
      ⟨⟨⟨rfl, fun l h => (by cases h), own_mono (own_emptyN w1 54 3) hw1, fun i u l h => (by simp at h), fun i j u u' b h => (by simp at h)⟩, K1.out.1.alloc _, K1.out.2.1.alloc K1.out.2.1.size _⟩, K1.out.2.2.alloc _⟩)
    have c0 := cp_head I1.out.ic.box
    clear K1
    go_wp2
    clear c0
    go_loopw [6, 23] (fun st i wr => ∃ (k : Nat) (vs : List Value), k ≤ Q.length ∧ i = .int .i64 (k : Int) ∧ ID w wr (.slice a Q.length cap) F st ((Q.take k).map stD) vs (.slice ae enc.length ce) enc) (fun _ i _ => Q.length - (intOf i).toNat)
    case atStart => exact ⟨0, [], Nat.zero_le _, rfl, I1.out⟩
    case round =>
      clear I1
      obtain ⟨k, vs, hk, rfl, hic⟩ := hrel
      have HI := hide hic
      clear hic
      by_cases hlt : k < Q.length
      · obtain ⟨p, hp⟩ : ∃ p, Q[k]? = some p := ⟨_, List.getElem?_eq_getElem hlt⟩
        obtain ⟨x0, zs⟩ := p
        obtain ⟨b, off, u, e0, hb0, hu, hrd, hrg⟩ := (HQ.out.below HI.out.ic.low).at (i := k) (l := neP (x0, zs)) (by rw [List.getElem?_map, hp]; rfl)
        subst e0
        have hzs := HB.out (x0, zs) (List.mem_of_getElem? hp)
        simp only at hzs
        have HTk := hide (show (Q.take (k + 1)).map stD = (Q.take k).map stD ++ [(2, x0, zs)] by rw [List.take_add_one, hp]; simp [stD])
        have HTl := hide (show ((Q.take k).map stD).length = k by simp; omega)
        have HRg := hide (show wr.rangeAt b (off + k * 2) [.int .i64 x0, u] from hrg)
        have hrd2 : Rd .u8 wr u zs := hrd
        obtain ⟨au, cu, rfl⟩ := rd_shape hrd2
        have HRd := hide hrd2
        have HN := hide (Blk.new wr #[.int .i64 x0, .slice au zs.length cu] 52)
        have HBn := hide (show Below wr.heap.size wr (wr.alloc (.cells #[.int .i64 x0, .slice au zs.length cu] 52)) from (Below.refl _ _).alloc (Nat.le_refl _) _)
        clear hrg hrd hrd2 hu hp
        go_wp2_with (first | (refine wpList_load_mid rfl 52 _ rfl b (off + k * 2) rfl [.int .i64 x0, .slice au zs.length cu] _ HRg.out Tryd.underlying52 rfl infoP2 ?_) | fail)
        refine wp_region_noPanic ?_
        refine wp_region_held_drew (S := fun w' => Blk w' wr.heap.size #[.int .i64 x0, .slice au zs.length cu] 52) (by kernel_rfl) HN.out (fun hH => ?_)
        refine wpAnyH_take (i := 0) (oi := _) (v := u6) rfl (by kernel_rfl) (by kernel_rfl) (by kernel_rfl) (fun _ _ _ h => h) (Or.inl ⟨by rfl, fun w' hw' => by go_simp⟩) hH ?_
        try simp only [Act.put, List.getElem_toArray, List.getElem_cons_zero, List.getElem_cons_succ, List.setIfInBounds_toArray, List.set_cons_zero, List.set_cons_succ]
        refine wpAnyH_take (i := 1) (oi := _) (v := .pointer (some ⟨wr.heap.size, 0, none⟩)) rfl (by kernel_rfl) (by kernel_rfl) (by kernel_rfl) (fun _ _ _ h => h) (Or.inl ⟨by rfl, fun w' hw' => by go_simp⟩) hH ?_
        try simp only [Act.put, List.getElem_toArray, List.getElem_cons_zero, List.getElem_cons_succ, List.setIfInBounds_toArray, List.set_cons_zero, List.set_cons_succ]
        refine wpAnyH_take (i := 2) (oi := _) (v := .int .i64 x0) rfl (by kernel_rfl) (by kernel_rfl) (by kernel_rfl) (fun _ _ _ h => h) (Or.inl ⟨by rfl, fun w' hw' => by have hc := (Blk.cell hw' 0).trans (show _ = some (Value.int .i64 x0) from rfl); go_simp⟩) hH ?_
        try simp only [Act.put, List.getElem_toArray, List.getElem_cons_zero, List.getElem_cons_succ, List.setIfInBounds_toArray, List.set_cons_zero, List.set_cons_succ]
        refine wpAnyH_take (i := 4) (oi := _) (v := .pointer (some ⟨wr.heap.size, 1, none⟩)) rfl (by kernel_rfl) (by kernel_rfl) (by kernel_rfl) (fun _ _ _ h => h) (Or.inl ⟨by rfl, fun w' hw' => by go_simp⟩) hH ?_
        try simp only [Act.put, List.getElem_toArray, List.getElem_cons_zero, List.getElem_cons_succ, List.setIfInBounds_toArray, List.set_cons_zero, List.set_cons_succ]
        refine wpAnyH_take (i := 5) (oi := _) (v := .slice au zs.length cu) rfl (by kernel_rfl) (by kernel_rfl) (by kernel_rfl) (fun _ _ _ h => h) (Or.inl ⟨by rfl, fun w' hw' => by have hc := (Blk.cell hw' 1).trans (show _ = some (Value.slice au zs.length cu) from rfl); go_simp⟩) hH ?_
        try simp only [Act.put, List.getElem_toArray, List.getElem_cons_zero, List.getElem_cons_succ, List.setIfInBounds_toArray, List.set_cons_zero, List.set_cons_succ]
        generalize hWA : World.drew (wr.alloc (.cells #[.int .i64 x0, .slice au zs.length cu] 52)) = wA at hH ⊢
        have BD := hide (show Below wr.heap.size wr wA from by rw [← hWA]; exact HBn.out.trans ((show Below (wr.alloc (.cells #[.int .i64 x0, .slice au zs.length cu] 52)).heap.size _ _ from (Below.refl _ _).drew).mono HBn.out.size))
        have NA := hide (show Blk wA wr.heap.size #[.int .i64 x0, .slice au zs.length cu] 52 from by rw [← hWA]; exact HN.out)
        clear hWA HN HBn
        refine wpAnyH_ready (rs := [3]) (by kernel_rfl) (by simp) ?_
        refine AllReadyH.cons (o := _) rfl (fun K hK => ?_) AllReadyH.nil
        go_simp
        refine hK.out _ _ (NA.out.alloc _) (fun hH => ?_)
        clear hK K
        try simp only [Act.put, List.getElem_toArray, List.getElem_cons_zero, List.getElem_cons_succ, List.setIfInBounds_toArray, List.set_cons_zero, List.set_cons_succ]
        have BE := hide (show Below wr.heap.size wr (wA.alloc (.cells #[] 5)) from BD.out.alloc BD.out.size _)
        have RE := hide (HRd.out.below BE.out).srcN
        have OE := hide (own_mono (own_emptyN wA 5 1) BD.out.size)
        refine wpAnyH_ready (rs := [6]) (by kernel_rfl) (by simp) ?_
        refine AllReadyH.cons (o := _) rfl (fun K hK => ?_) AllReadyH.nil
        rw [if_pos (by rfl)]
        refine wp_append_copyN (wA.alloc (.cells #[] 5)) (.tmp 30) (.tmp 32) 48 rfl 5 i1 (.int .u8 0) 1 1 Tryd.underlying48 hi1 hy0 hy1 hy2 rfl (by decide) wr.heap.size wA.heap.size OE.out BE.out.size rfl au zs.length cu (zs.map (Value.int .u8)) rfl (by simp) RE.out (ints_oneCell _ _) (by unfold maxLen; omega) (by omega) ?_
        intro uc w2 o2 g2
        obtain ⟨ac, cc, rfl⟩ := own_shape o2
        have B2 := hide (BE.out.grown g2 BE.out.size (fun q e => by cases e; exact BD.out.size))
        have N2 := hide (show Blk w2 wr.heap.size #[.int .i64 x0, .slice au zs.length cu] 52 from (g2.block _ (NA.out.alloc _).lt (fun e => by have h1 := NA.out.lt; have := Option.some.inj e; omega)).trans (NA.out.alloc _))
        have O2 := hide (And.intro o2 (own_mono o2 (show w.heap.size + 1 ≤ wr.heap.size from HI.out.ic.box.lt)))
        clear o2 g2
        refine hK.out _ _ N2.out (fun hH => ?_)
        clear hK K
        try simp only [Act.put, List.getElem_toArray, List.getElem_cons_zero, List.getElem_cons_succ, List.setIfInBounds_toArray, List.set_cons_zero, List.set_cons_succ]
        refine wpAnyH_take (i := 7) (oi := _) (v := .agg #[.int .i64 2, .int .i64 x0, .slice ac zs.length cc]) rfl (by kernel_rfl) (by kernel_rfl) (by kernel_rfl) (fun _ _ _ h => h) (Or.inl ⟨by rfl, fun w' hw' => by go_simp⟩) hH ?_
        try simp only [Act.put, List.getElem_toArray, List.getElem_cons_zero, List.getElem_cons_succ, List.setIfInBounds_toArray, List.set_cons_zero, List.set_cons_succ]
        refine wpAnyH_ready (rs := [8]) (by kernel_rfl) (by simp) ?_
        refine AllReadyH.cons (o := _) rfl (fun K hK => ?_) AllReadyH.nil
        go_simp
        refine hK.out _ _ (N2.out.alloc _) (fun hH => ?_)
        clear hK K
        try simp only [Act.put, List.getElem_toArray, List.getElem_cons_zero, List.getElem_cons_succ, List.setIfInBounds_toArray, List.set_cons_zero, List.set_cons_succ]
        have O3 := hide ((HI.out.ic.own.below B2.out).row.alloc (.cells #[.int .i64 2, .int .i64 x0, .slice ac zs.length cc] 54))
        refine wpAnyH_ready (rs := [9]) (by kernel_rfl) (by simp) ?_
        refine AllReadyH.cons (o := _) rfl (fun K hK => ?_) AllReadyH.nil
        rw [if_pos (by rfl)]
        refine wp_append_own _ (.tmp 27) (.tmp 35) 32 rfl (w.heap.size + 1) 54 i0 (.agg #[.int .i64 0, .int .i64 0, .slice none 0 0]) 3 40 Tryd.underlying32 hi hz0 hz1 hz2 rfl (by decide) _ _ _ rfl O3.out ⟨w2.heap.size, 0, none⟩ 1 1 [.int .i64 2, .int .i64 x0, .slice ac zs.length cc] rfl rfl (new3 w2 [.int .i64 2, .int .i64 x0, .slice ac zs.length cc] 54) (one3 _ _ _ _ _) (by rw [List.length_map, HTl.out]; unfold maxLen; omega) (by rw [List.length_map, HTl.out]; omega) (by have := HI.out.ic.box.lt; have := B2.out.size; simp; omega) ?_
        intro v3 w3 o3 g3 _
        have B3 := hide (B2.out.trans ((show Below w2.heap.size w2 (w2.alloc (.cells #[.int .i64 2, .int .i64 x0, .slice ac zs.length cc] 54)) from (Below.refl _ _).alloc (Nat.le_refl _) _).mono B2.out.size))
        have OP := hide ((HI.out.ic.own.below B3.out).push (by decide) (neD (2, x0, zs)) (.slice ac zs.length cc) rfl (own_below O2.out.2 ((Below.refl _ _).alloc (Nat.le_refl _) _)) (fun i x q hx hq e => by have h1 := (O2.out.1.lt q e).1; have h2 := (HI.out.ic.own.ltN hx hq).2; omega) o3 g3)
        have IP := hide (HI.out.grew (S' := (Q.take (k + 1)).map stD) (by rw [HTk.out, List.map_append]; exact OP.out) B3.out g3)
        have N3 := hide (show Blk w3 wr.heap.size #[.int .i64 x0, .slice au zs.length cu] 52 from (g3.block _ (N2.out.alloc _).lt (fun e => by have h1 := (HI.out.ic.own.row.lt _ e.symm).2; omega)).trans (N2.out.alloc _))
        clear o3 g3 O3 OP
        refine hK.out _ _ N3.out (fun hH => ?_)
        clear hK K
        try simp only [Act.put, List.getElem_toArray, List.getElem_cons_zero, List.getElem_cons_succ, List.setIfInBounds_toArray, List.set_cons_zero, List.set_cons_succ]
        refine wpAnyH_take (i := 10) (oi := _) (v := v3) rfl (by kernel_rfl) (by kernel_rfl) (by kernel_rfl) (fun _ _ _ h => h) (Or.inl ⟨by rfl, fun w' hw' => by go_simp⟩) hH ?_
        try simp only [Act.put, List.getElem_toArray, List.getElem_cons_zero, List.getElem_cons_succ, List.setIfInBounds_toArray, List.set_cons_zero, List.set_cons_succ]
        refine wpAnyH_done (by kernel_rfl) (NoPanic.normal ?_) _
        clear hH
        go_wp2
        go_roundw
        case rel => exact ⟨k + 1, _, by omega, by go_num, IP.out⟩
        case measure => simp [intOf]; omega
      · obtain rfl : k = Q.length := by omega
        have HTk := hide (show (Q.take Q.length).map stD = Q.map stD by rw [List.take_length])
        rw [HTk.out] at HI
        have O3 := hide (HI.out.ic.own.row.alloc (.cells #[.int .i64 3, .int .i64 0, .slice none 0 0] 54))
        have BA := hide (show Below wr.heap.size wr (wr.alloc (.cells #[.int .i64 3, .int .i64 0, .slice none 0 0] 54)) from (Below.refl _ _).alloc (Nat.le_refl _) _)
        clear HTk
        go_wp2_with (first | (at_builtin; refine wpList_append_own _ rfl (.tmp 38) (.tmp 40) 32 rfl (w.heap.size + 1) 54 i0 (.agg #[.int .i64 0, .int .i64 0, .slice none 0 0]) 3 40 Tryd.underlying32 hi hz0 hz1 hz2 rfl (by decide) _ _ _ rfl O3.out ⟨wr.heap.size, 0, none⟩ 1 1 [.int .i64 3, .int .i64 0, .slice none 0 0] rfl rfl (new3 wr [.int .i64 3, .int .i64 0, .slice none 0 0] 54) (one3 _ _ _ _ _) (by simp; unfold maxLen; omega) (by simp; omega) (by have := HI.out.ic.box.lt; simp; omega) ?_; intro v3 w3 o3 g3 _; have I3 := hide (HI.out.grew (S' := stepsL Q enc 0) (show OwnN w3 (w.heap.size + 1) 54 2 v3 ((stepsL Q enc 0).map neD) _ from by rw [show (stepsL Q enc 0).map neD = (Q.map stD).map neD ++ [neD (3, 0, [])] by simp [stepsL, recsL]]; exact (HI.out.ic.own.below BA.out).push (by decide) (neD (3, 0, [])) (.slice none 0 0) rfl ⟨rfl, .inl ⟨rfl, rfl⟩⟩ (fun i x q hx hq e => by cases e) o3 g3) BA.out g3); clear o3 g3) | fail)
        clear HI O3 BA
        go_loopw [6, 9] (fun st i wr => ∃ (k : Nat) (vs : List Value), k ≤ 2 ∧ i = .int .i64 (k : Int) ∧ ID w wr (.slice a Q.length cap) F st (stepsL Q enc k) vs (.slice ae enc.length ce) enc) (fun _ i _ => 2 - (intOf i).toNat)
        case atStart => exact ⟨0, _, by omega, rfl, I3.out⟩
        case round =>
          clear I3
          obtain ⟨k, vs, hk, rfl, hic⟩ := hrel
          have HI := hide hic
          clear hic
          by_cases hlt : k < 2
          · have BE := hide (show Below wr.heap.size wr (wr.alloc (.cells #[] 5)) from (Below.refl _ _).alloc (Nat.le_refl _) _)
            have RE := hide (Rd.own (HI.out.below BE.out).enc).srcN
            have OE := hide (own_emptyN wr 5 1)
            have hsl := stepsL_len Q enc k
            go_wp2_with (first | (at_builtin; refine wpList_plain rfl fun K hK => ?_; refine wp_append_copyN (wr.alloc (.cells #[] 5)) (.tmp 48) (.tmp 49) 48 rfl 5 i1 (.int .u8 0) 1 1 Tryd.underlying48 hi1 hy0 hy1 hy2 rfl (by decide) wr.heap.size wr.heap.size OE.out BE.out.size rfl ae enc.length ce (enc.map (Value.int .u8)) rfl (by simp) RE.out (ints_oneCell _ _) (by unfold maxLen; omega) (by omega) ?_; intro uc w2 o2 g2; refine hK _ _ ?_; obtain ⟨ac, cc, rfl⟩ := own_shape o2; have B2 := hide (BE.out.grown g2 BE.out.size (fun q e => by cases e; exact Nat.le_refl _)); have O2 := hide o2; clear o2 g2 hK K) | (at_builtin; refine wpList_append_own _ rfl (.tmp 46) (.tmp 53) 32 rfl (w.heap.size + 1) 54 i0 (.agg #[.int .i64 0, .int .i64 0, .slice none 0 0]) 3 40 Tryd.underlying32 hi hz0 hz1 hz2 rfl (by decide) _ _ _ rfl ((HI.out.ic.own.below B2.out).row.alloc _) ⟨w2.heap.size, 0, none⟩ 2 2 [.int .i64 2, .int .i64 (k : Int), .slice ac enc.length cc, .int .i64 3, .int .i64 0, .slice none 0 0] rfl rfl (new3 w2 [.int .i64 2, .int .i64 (k : Int), .slice ac enc.length cc, .int .i64 3, .int .i64 0, .slice none 0 0] 54) (by intro x hx; simp at hx; rcases hx with rfl | rfl | rfl | rfl | rfl | rfl <;> rfl) (by rw [List.length_map, hsl]; unfold maxLen; omega) (by rw [List.length_map, hsl]; omega) (by have := HI.out.ic.box.lt; have := B2.out.size; simp; omega) ?_; intro v3 w3 o3 g3 _; have M2 := hide (recOwn k (own_mono O2.out (show w.heap.size + 1 ≤ wr.heap.size from HI.out.ic.box.lt)) (by have := HI.out.ic.box.lt; have := B2.out.size; omega)); have B3 := hide (B2.out.trans ((show Below w2.heap.size w2 (w2.alloc (.cells #[.int .i64 2, .int .i64 (k : Int), .slice ac enc.length cc, .int .i64 3, .int .i64 0, .slice none 0 0] 54)) from (Below.refl _ _).alloc (Nat.le_refl _) _).mono B2.out.size)); have hfr : ∀ (i j : Nat) (x x' : Value) (q : Nat), vs[i]? = some x → [Value.slice ac enc.length cc, Value.slice none 0 0][j]? = some x' → x.ownBlock = some q → x'.ownBlock ≠ some q := (fun i j x x' q hx hx' hq e => by have h1 := (HI.out.ic.own.ltN hx hq).2; match j, hx' with | 0, hx' => (have e2 := Option.some.inj hx'; subst e2; have h2 := (O2.out.lt q e).1; omega) | 1, hx' => (have e2 := Option.some.inj hx'; subst e2; cases e) | n + 2, hx' => simp at hx'); have I3 := hide (HI.out.grew (S' := stepsL Q enc (k + 1)) (show OwnN w3 (w.heap.size + 1) 54 2 v3 ((stepsL Q enc (k + 1)).map neD) _ from by rw [show (stepsL Q enc (k + 1)).map neD = (stepsL Q enc k).map neD ++ (recL k enc).map neD by simp [stepsL, recsL]]; exact (HI.out.ic.own.below B3.out).concat M2.out (by decide) hfr o3 g3) B3.out g3); clear o3 g3 hfr) | fail)
            clear HI BE RE OE
            go_roundw
            case rel => exact ⟨k + 1, _, by omega, by go_num, I3.out⟩
            case measure => simp [intOf]; omega
          · obtain rfl : k = 2 := by omega
            go_wp2
            go_ret2
            first
            | exact ⟨_, _, rfl, HI.out.ic.own.mono (by omega), HI.out.ic.low⟩
            | exact ⟨_, rfl, ⟨_, HI.out.ic.own.mono (by omega)⟩, HI.out.ic.low⟩
            | exact ⟨_, ⟨_, HI.out.ic.own.mono (by omega)⟩, HI.out.ic.low⟩
            | exact ⟨⟨_, HI.out.ic.own.mono (by omega)⟩, HI.out.ic.low⟩
end Go.Proofs.YtmmhkjpkidljlaaDoor
