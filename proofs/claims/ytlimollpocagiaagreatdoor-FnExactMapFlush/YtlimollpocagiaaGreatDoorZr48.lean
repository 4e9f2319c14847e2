/- The law on MapFlush, walked: it answers true and turns nothing that was there. -/
import Derived.Test.YtlimollpocagiaaGreatDoorZr47
import Derived.Deep.RegionHeld3
import Derived.Deep.MidRow
namespace Go.Proofs.YtlimollpocagiaaGreatDoor
open List (getElem_toArray getElem_cons_zero getElem_cons_succ setIfInBounds_toArray set_cons_zero set_cons_succ)
set_option linter.unusedVariables false
set_option linter.unusedSimpArgs false
open Go.RowKit

def moRL (zs : List Int) (s : Int) (ds : List Int) (p q : Int) (ws : List Int) (cu : Int) : List Int := if mfC zs s ds p q ws cu = 0 then rootF ((ws.length + 127) / 128) ws.length (mfG zs s ds p q ws cu) else List.replicate 15 0
def moW (zs : List Int) (s : Int) (ds : List Int) (p q : Int) (ws : List Int) (cu : Int) : List Int := if mfC zs s ds p q ws cu = 0 then (mfT zs s ds p q ws cu).1.ws else []
def moU (zs : List Int) (s : Int) (ds : List Int) (p q : Int) (ws : List Int) (cu : Int) : Int := if mfC zs s ds p q ws cu = 0 then ((mfT zs s ds p q ws cu).1.cu : Int) else 0
def moP (zs : List Int) (s : Int) (ds : List Int) (p q : Int) (ws : List Int) (cu : Int) : List (Int × List Int) := if mfC zs s ds p q ws cu = 0 then (mfT zs s ds p q ws cu).1.od.map (putF ((ws.length + 127) / 128) (mfT zs s ds p q ws cu).1.ws (mfG zs s ds p q ws cu)) else []
/-- What both answer. -/
def MoR (c U : Int) (RL W : List Int) (PP : List (Int × List Int)) (w w' : World) (e : Ending) : Prop := ∃ wv pv vs, e = .returned (.tuple #[.agg (moC RL wv U pv), .int .i64 c]) ∧ w'.ownsRow w.heap.size 3 1 wv W.length (W.map (Value.int .i64)) ∧ OwnN w' w.heap.size 44 1 pv (PP.map neP) vs ∧ Below w.heap.size w w'
theorem MfR.mo {w w' : World} {zs : List Int} {s : Int} {ds : List Int} {p q : Int} {ws : List Int} {cu : Int} {e : Ending} (h : MfR w w' zs s ds p q ws cu e) : MoR (mfC zs s ds p q ws cu) (moU zs s ds p q ws cu) (moRL zs s ds p q ws cu) (moW zs s ds p q ws cu) (moP zs s ds p q ws cu) w w' e := by
  obtain ⟨h, hb⟩ := h
  rcases h with ⟨h1, h2⟩ | ⟨h1, wv, pv, vs, h2, h3, h4⟩
  · refine ⟨.slice none 0 0, .slice none 0 0, [], ?_, ?_, ?_, hb⟩
    · rw [h2]
      unfold moRL moU
      rw [if_neg h1, if_neg h1]
      rfl
    · unfold moW
      rw [if_neg h1]
      exact World.ownsRow_nil _ _ _ _
    · unfold moP
      rw [if_neg h1]
      exact OwnN.nil _ _ _ _
  · refine ⟨wv, pv, vs, ?_, ?_, ?_, hb⟩
    · rw [h2, h1]
      unfold moRL moU
      rw [if_pos h1, if_pos h1]
      rfl
    · unfold moW
      rw [if_pos h1]
      have h5 := h3.1
      rw [List.length_map, Nat.mul_one] at h5
      rw [h5]
      exact h3
    · unfold moP
      rw [if_pos h1]
      exact h4
theorem OwnN.offMO {W : World} {base b : Nat} {v : Value} {L : List NE} {vs : List Value} {C : Array Value} (h : OwnN W base 44 1 v L vs) (hb : Blk W b C 34) (cs : Array Value) : OwnN (W.setRow b cs) base 44 1 v L vs :=
  ⟨h.len, h.pre, own_kept h.row (fun k hk => setRow_other W b k cs (fun e => own_offP h.row hb (by decide) k hk e)), fun i u l hu hl => own_setRowT (h.dat i u l hu hl) hb (by decide), h.one⟩
theorem own_keptB {W W' : World} {base n sz : Nat} {e : TypeId} {v : Value} {xs : List Value} (h : W.ownsRow base e sz v n xs) (hs : ∀ r, base ≤ r → r < W.heap.size → W'.heap[r]? = W.heap[r]?) : W'.ownsRow base e sz v n xs :=
  own_kept h (fun k hk => hs k (h.lt k hk).1 (h.lt k hk).2)
theorem OwnN.keptB {W W' : World} {base m : Nat} {e : TypeId} {v : Value} {L : List NE} {vs : List Value} (h : OwnN W base e m v L vs) (hs : ∀ r, base ≤ r → r < W.heap.size → W'.heap[r]? = W.heap[r]?) : OwnN W' base e m v L vs :=
  ⟨h.len, h.pre, own_keptB h.row hs, fun i u l hu hl => own_keptB (h.dat i u l hu hl) hs, h.one⟩
theorem encW_512 (ws : List Int) : (encW ws).length ≤ 512 := by
  unfold encW
  split
  · rename_i h
    unfold goodW at h
    rw [Bool.and_eq_true, decide_eq_true_eq] at h
    rw [bytesW_len, h.1]
    omega
  · simp
theorem mo_len {zs : List Int} {s : Int} {ds : List Int} {p q : Int} {ws : List Int} {cu : Int} (hw : ws.length ≤ 1048576) : (moRL zs s ds p q ws cu).length = 15 ∧ (moW zs s ds p q ws cu).length ≤ 1048576 ∧ (moP zs s ds p q ws cu).length ≤ 17 ∧ ∀ x ∈ moP zs s ds p q ws cu, x.2.length ≤ 512 := by
  by_cases hc : mfC zs s ds p q ws cu = 0
  · have hok : mfOk zs s ds p q ws cu = true := by
      cases h : mfOk zs s ds p q ws cu with
      | true => rfl
      | false => unfold mfC at hc; rw [if_pos h] at hc; cases hc
    obtain ⟨hsa, hsb, hnz, hsn, hcu⟩ := mfOk_facts hok
    have hrm : rightM ws = true := by unfold mfOk at hok; simp only [Bool.and_eq_true] at hok; exact hok.1.1.1.2
    have hlen := right_len ws hrm
    have hwf : WfD ((ws.length + 127) / 128) ws.length (mfT zs s ds p q ws cu).1 := WfD.run hlen.2 _ _ _ _ (fd0_wf rfl (right_words hrm) hcu)
    have ho := hwf.odlen
    unfold moRL moW moP
    rw [if_pos hc, if_pos hc, if_pos hc]
    refine ⟨by simp [rootF], by rw [hwf.wl]; exact hw, by rw [List.length_map]; omega, fun x hx => ?_⟩
    obtain ⟨k, _, rfl⟩ := List.mem_map.1 hx
    exact encW_512 _
  · unfold moRL moW moP
    rw [if_neg hc, if_neg hc, if_neg hc]
    exact ⟨by simp, by simp, by simp, fun x hx => by cases hx⟩
set_option maxRecDepth 100000 in
set_option maxHeartbeats 8000000 in
theorem lawMf (iv wv : Value) (zs : List Int) (s : Int) (ds : List Int) (p q : Int) (ws : List Int) (cu : Int) (w : World) (h : Rd .u8 w iv zs) (hbd : ∀ z ∈ zs, 0 ≤ z ∧ z < 256) (hd : ds.length = 12) (hw : Rd .i64 w wv ws) (hg : ErrT w) :
    Calls Tryz.prog 4 #[iv, .agg (cellsI (rootI s ds p q)), wv, .int .i64 cu] w fun e w' => e = .returned (.bool true) ∧ Below w.heap.size w w' := by
  have hm := h.len
  have hm2 := hw.len
  unfold maxLen at hm hm2
  obtain ⟨ia, ic, rfl⟩ := rd_shapeT h
  obtain ⟨wa, wc, rfl⟩ := rd_shapeT hw
  obtain ⟨RT, hRT⟩ : ∃ RT, RT = cellsI (rootI s ds p q) := ⟨_, rfl⟩
  obtain ⟨zn, hzn⟩ : ∃ zn, zn = zs.length := ⟨_, rfl⟩
  obtain ⟨wn, hwn⟩ : ∃ wn, wn = ws.length := ⟨_, rfl⟩
  have HN := hide (And.intro hzn hwn)
  obtain ⟨w0, hw0⟩ : ∃ w0, w0 = w.alloc (.cells RT 46) := ⟨_, rfl⟩
  have B00 := hide (show Below w.heap.size w w0 from by rw [hw0]; exact (Below.refl _ _).alloc (Nat.le_refl _) _)
  have K0 := hide (show Blk w0 w.heap.size RT 46 from by rw [hw0]; exact Blk.new _ _ _)
  have HW0 := hide hw0
  have H := hide (And.intro (h.below B00.out) (And.intro (hw.below B00.out) (hg.below B00.out)))
  have HRT := hide (And.intro hRT hd)
  have HInL := hide (show (Tryz.prog.info? 46).map (·.size) = some RT.size from by rw [hRT, cellsI_size, rootI_len s ds p q hd]; exact infoL15)
  have HInLl := hide (show (Tryz.prog.info? 46).map (·.size) = some RT.toList.length from by rw [Array.length_toList]; exact HInL.out)
  have HTo := hide (show ∀ W, Calls Tryz.prog 17 #[.agg RT] W fun e w' => e = .returned (.agg RT) ∧ Below W.heap.size W w' from fun W => by rw [hRT]; exact toRoot_any s ds p q W hd)
  rw [← hRT, ← hzn, ← hwn]
  by_cases hbig : (1048576 : Int) < (zn : Int)
  · clear h hw hbd hd hg hRT hzn hwn hw0
    go_enter Tryz.func4, Tryz.ntmps4
    go_upto_region 1 with fail
    rw [← HW0.out]
    go_wp2
    go_ret
    exact ⟨rfl, B00.out⟩
  by_cases hbig2 : (1048576 : Int) < (wn : Int)
  · clear h hw hbd hd hg hRT hzn hwn hw0
    go_enter Tryz.func4, Tryz.ntmps4
    go_upto_region 1 with fail
    rw [← HW0.out]
    go_wp2
    go_ret
    exact ⟨rfl, B00.out⟩
  have hsm : zn ≤ 1048576 := by omega
  have hsw : wn ≤ 1048576 := by omega
  have HS := hide (show ∀ (v1 v2 : Value) (W : World), Rd .u8 W v1 zs → Rd .i64 W v2 ws → Calls Tryz.prog 10 #[v1, .agg RT, v2, .int .i64 cu] W fun e w' => MoR (mfC zs s ds p q ws cu) (moU zs s ds p q ws cu) (moRL zs s ds p q ws cu) (moW zs s ds p q ws cu) (moP zs s ds p q ws cu) W w' e from fun v1 v2 W r1 r2 => by
    rw [hRT]
    exact (specMF_any v1 v2 zs ws s ds p q cu W r1 (by omega) hbd hd r2 (by omega)).mono fun e w' hh => hh.mo)
  have HI := hide (show ∀ (v1 v2 : Value) (W : World), Rd .u8 W v1 zs → Rd .i64 W v2 ws → ErrT W → Calls Tryz.prog 8 #[v1, .agg RT, v2, .int .i64 cu] W fun e w' => MoR (mfC zs s ds p q ws cu) (moU zs s ds p q ws cu) (moRL zs s ds p q ws cu) (moW zs s ds p q ws cu) (moP zs s ds p q ws cu) W w' e from fun v1 v2 W r1 r2 r3 => by
    rw [hRT]
    exact (implMF_any v1 v2 zs ws s ds p q cu W r1 (by omega) hbd hd r2 (by omega) r3).mono fun e w' hh => hh.mo)
  have HL := hide (mo_len (zs := zs) (s := s) (ds := ds) (p := p) (q := q) (ws := ws) (cu := cu) (by omega))
  generalize mfC zs s ds p q ws cu = c at HS HI
  generalize moU zs s ds p q ws cu = U at HS HI
  generalize moRL zs s ds p q ws cu = RL at HS HI HL
  generalize moW zs s ds p q ws cu = WW at HS HI HL
  generalize moP zs s ds p q ws cu = PP at HS HI HL
  have hcc : (c != c) = false := by simp
  obtain ⟨WN, hWN⟩ : ∃ WN, WN = WW.length := ⟨_, rfl⟩
  have hWNb : WN ≤ 1048576 := by rw [hWN]; exact HL.out.2.1
  have HWN := hide hWN
  obtain ⟨EN, hEN⟩ : ∃ EN, EN = endN 1 (1 + WN) (PP.map neP) := ⟨_, rfl⟩
  have hENb : EN ≤ 140737488355328 := by
    rw [hEN]
    have h9 := endN_bound (PP.map neP) (1 + WN) (fun l hl => by obtain ⟨x, hx, rfl⟩ := List.mem_map.1 hl; exact HL.out.2.2.2 x hx)
    rw [List.length_map] at h9
    have := HL.out.2.2.1
    omega
  have HEN := hide hEN
  have hee : ((EN : Int) != (EN : Int)) = false := by simp
  have hen0 : decide ((EN : Int) < 0) = false := by simp
  obtain ⟨Kc, hKc⟩ : ∃ K : Nat, K = 1 + zn := ⟨_, rfl⟩
  obtain ⟨Kd, hKd⟩ : ∃ K : Nat, K = Kc + wn := ⟨_, rfl⟩
  have HKc := hide (And.intro hKc hKd)
  have hKb : Kc ≤ 1048577 ∧ Kd ≤ 2097153 := by omega
  have hkd0 : decide ((Kd : Int) < 0) = false := by simp
  have HInM := hide (show ∀ (a b : Value), (Tryz.prog.info? 34).map (·.size) = some (moC RL a U b).size from fun a b => by rw [moC_size HL.out.1]; exact infoMO)
  have HOne := hide (show ∀ (a1 a2 : Option Addr) (n1 n2 c1 c2 : Nat), (moC RL (.slice a1 n1 c1) U (.slice a2 n2 c2)).all (·.oneCell') = true from fun a1 a2 n1 n2 c1 c2 => by
    unfold moC
    refine all_oneCell_toArray (fun v hv => ?_)
    rcases List.mem_append.1 hv with hv | hv
    · obtain ⟨z, _, rfl⟩ := List.mem_map.1 hv; rfl
    · simp at hv
      rcases hv with rfl | rfl | rfl <;> rfl)
  clear h hw hbd hd hg hRT hzn hwn hw0 hm hm2 hWN hEN hKc hKd hbig hbig2
  go_enter Tryz.func4, Tryz.ntmps4
  have hbigI : ¬ ((1048576 : Int) < (zn : Int)) := by omega
  have hbigJ : ¬ ((1048576 : Int) < (wn : Int)) := by omega
  go_upto_region 1 with fail
  rw [← HW0.out]
  have X0 := hide (show Below w0.heap.size w0 w0 from Below.refl _ _)
  go_upto_region 5 with fail
  go_cut [9, 10] from 26 to 36 (fun v9 v10 wx => v10 = .int .i64 c ∧ ∃ bx, v9 = .pointer (some ⟨bx, 0, none⟩) ∧ ∃ M xa xc ya yc us, M = moC RL (.slice xa WW.length xc) U (.slice ya (PP.map neP).length yc) ∧ Blk wx bx M 34 ∧ Rd .i64 wx (.slice xa WW.length xc) WW ∧ RdN wx 1 (.slice ya (PP.map neP).length yc) (PP.map neP) us ∧ Below w0.heap.size w0 wx)
  case first Jc Kc hJc hKc =>
    refine wp_region_noPanic ?_
    refine wp_region_held_drew (S := fun w' => Blk w' w.heap.size RT 46) (by kernel_rfl) (K0.out.below X0.out.drew K0.out.lt) (fun hH => ?_)
    refine wpAnyH_take (i := 0) (oi := _) (v := .slice ia zn ic) rfl (by kernel_rfl) (by kernel_rfl) (by kernel_rfl) (fun _ _ _ h => h) (Or.inl ⟨by rfl, fun w' hw' => by go_simp⟩) hH ?_
    try simp only [Act.put, getElem_toArray, getElem_cons_zero, getElem_cons_succ, setIfInBounds_toArray, set_cons_zero, set_cons_succ]
    refine wpAnyH_take (i := 2) (oi := _) (v := .agg RT) rfl (by kernel_rfl) (by kernel_rfl) (by kernel_rfl) (fun _ _ _ h => h) (yieldsIf_load_mid (by rfl) 46 _ rfl w.heap.size 0 rfl RT.toList _ (fun w' h => blk_range8 h) Tryz.underlying46 rfl HInLl.out) hH ?_
    try simp only [Act.put, getElem_toArray, getElem_cons_zero, getElem_cons_succ, setIfInBounds_toArray, set_cons_zero, set_cons_succ]
    refine wpAnyH_take (i := 4) (oi := _) (v := .slice wa wn wc) rfl (by kernel_rfl) (by kernel_rfl) (by kernel_rfl) (fun _ _ _ h => h) (Or.inl ⟨by rfl, fun w' hw' => by go_simp⟩) hH ?_
    try simp only [Act.put, getElem_toArray, getElem_cons_zero, getElem_cons_succ, setIfInBounds_toArray, set_cons_zero, set_cons_succ]
    refine wpAnyH_take (i := 6) (oi := _) (v := .int .i64 cu) rfl (by kernel_rfl) (by kernel_rfl) (by kernel_rfl) (fun _ _ _ h => h) (Or.inl ⟨by rfl, fun w' hw' => by go_simp⟩) hH ?_
    try simp only [Act.put, getElem_toArray, getElem_cons_zero, getElem_cons_succ, setIfInBounds_toArray, set_cons_zero, set_cons_succ]
    have YDHS := hide (show Below w0.heap.size w0 w0.drew from (Below.refl _ _).drew)
    have XDHS := hide (show Below w0.heap.size w0 w0.drew from X0.out.drew)
    refine wpAnyH_ready (rs := [1, 11]) (by kernel_rfl) (by simp) ?_
    refine AllReadyH.cons (o := _) rfl (fun K hK => ?_) (AllReadyH.cons (o := _) rfl (fun K hK => ?_) AllReadyH.nil)
    · go_simp
      refine (toByteS_any _ zs _ (by rw [HN.out.1]; exact H.out.1.below XDHS.out) (by have := HN.out.1; omega)).mono ?_
      rintro e wk1 ⟨va1, rfl, o1, b1⟩
      have O1 := hide o1
      have Y1 := hide (show Below w0.heap.size w0 wk1 from YDHS.out.trans (b1.mono YDHS.out.size))
      have X1 := hide (show Below w0.heap.size w0 wk1 from X0.out.trans (Y1.out.mono X0.out.size))
      clear o1
      refine hK.out _ _ (K0.out.below X1.out K0.out.lt) (fun hH => ?_)
      clear hK K b1
      try simp only [Act.put, getElem_toArray, getElem_cons_zero, getElem_cons_succ, setIfInBounds_toArray, set_cons_zero, set_cons_succ]
      refine wpAnyH_ready (rs := [3, 11]) (by kernel_rfl) (by simp) ?_
      refine AllReadyH.cons (o := _) rfl (fun K hK => ?_) (AllReadyH.cons (o := _) rfl (fun K hK => ?_) AllReadyH.nil)
      · go_simp
        refine (HTo.out _).mono ?_
        rintro e wk2 ⟨rfl, b1⟩
        have Y2 := hide (show Below w0.heap.size w0 wk2 from Y1.out.trans (b1.mono Y1.out.size))
        have X2 := hide (show Below w0.heap.size w0 wk2 from X0.out.trans (Y2.out.mono X0.out.size))
        have Qr12 := hide (own_belowT O1.out b1)
        refine hK.out _ _ (K0.out.below X2.out K0.out.lt) (fun hH => ?_)
        clear hK K b1
        try simp only [Act.put, getElem_toArray, getElem_cons_zero, getElem_cons_succ, setIfInBounds_toArray, set_cons_zero, set_cons_succ]
        refine wpAnyH_ready (rs := [5, 11]) (by kernel_rfl) (by simp) ?_
        refine AllReadyH.cons (o := _) rfl (fun K hK => ?_) (AllReadyH.cons (o := _) rfl (fun K hK => ?_) AllReadyH.nil)
        · go_simp
          refine (toIntS_any _ ws _ (by rw [HN.out.2]; exact H.out.2.1.below X2.out) (by have := HN.out.2; omega)).mono ?_
          rintro e wk3 ⟨vb3, rfl, o1, b1⟩
          have O3 := hide o1
          have Y3 := hide (show Below w0.heap.size w0 wk3 from Y2.out.trans (b1.mono Y2.out.size))
          have X3 := hide (show Below w0.heap.size w0 wk3 from X0.out.trans (Y3.out.mono X0.out.size))
          have Qr13 := hide (own_belowT Qr12.out b1)
          clear o1
          refine hK.out _ _ (K0.out.below X3.out K0.out.lt) (fun hH => ?_)
          clear hK K b1
          try simp only [Act.put, getElem_toArray, getElem_cons_zero, getElem_cons_succ, setIfInBounds_toArray, set_cons_zero, set_cons_succ]
          refine wpAnyH_ready (rs := [7, 11]) (by kernel_rfl) (by simp) ?_
          refine AllReadyH.cons (o := _) rfl (fun K hK => ?_) (AllReadyH.cons (o := _) rfl (fun K hK => ?_) AllReadyH.nil)
          · go_simp
            refine (HS.out va1 vb3 wk3 (Rd.own Qr13.out) (Rd.own O3.out)).mono ?_
            rintro e wk4 ⟨uw, up, us4, rfl, o4, p4, b1⟩
            obtain ⟨xa4, xc4, rfl⟩ := own_shape o4
            obtain ⟨ya4, yc4, hup⟩ := own_shape p4.row
            subst hup
            have Ow4 := hide o4
            have Op4 := hide p4
            obtain ⟨M4, hM⟩ : ∃ M, M = moC RL (.slice xa4 WW.length xc4) U (.slice ya4 (PP.map neP).length yc4) := ⟨_, rfl⟩
            rw [← hM]
            have HM4 := hide hM
            have Y4 := hide (show Below w0.heap.size w0 wk4 from Y3.out.trans (b1.mono Y3.out.size))
            have X4 := hide (show Below w0.heap.size w0 wk4 from X0.out.trans (Y4.out.mono X0.out.size))
            have Qr14 := hide (own_belowT Qr13.out b1)
            have Qr24 := hide (own_belowT O3.out b1)
            clear o4 p4 hM
            refine hK.out _ _ (K0.out.below X4.out K0.out.lt) (fun hH => ?_)
            clear hK K b1
            try simp only [Act.put, getElem_toArray, getElem_cons_zero, getElem_cons_succ, setIfInBounds_toArray, set_cons_zero, set_cons_succ]
            refine wpAnyH_take (i := 8) (oi := _) (v := .tuple #[.agg M4, .int .i64 c]) rfl (by kernel_rfl) (by kernel_rfl) (by kernel_rfl) (fun _ _ _ h => h) (Or.inl ⟨by rfl, fun w' hw' => by go_simp⟩) hH ?_
            try simp only [Act.put, getElem_toArray, getElem_cons_zero, getElem_cons_succ, setIfInBounds_toArray, set_cons_zero, set_cons_succ]
            refine wpAnyH_take (i := 9) (oi := _) (v := .agg M4) rfl (by kernel_rfl) (by kernel_rfl) (by kernel_rfl) (fun _ _ _ h => h) (Or.inl ⟨by rfl, fun w' hw' => by go_simp⟩) hH ?_
            try simp only [Act.put, getElem_toArray, getElem_cons_zero, getElem_cons_succ, setIfInBounds_toArray, set_cons_zero, set_cons_succ]
            refine wpAnyH_take (i := 10) (oi := _) (v := .int .i64 c) rfl (by kernel_rfl) (by kernel_rfl) (by kernel_rfl) (fun _ _ _ h => h) (Or.inl ⟨by rfl, fun w' hw' => by go_simp⟩) hH ?_
            try simp only [Act.put, getElem_toArray, getElem_cons_zero, getElem_cons_succ, setIfInBounds_toArray, set_cons_zero, set_cons_succ]
            refine wpAnyH_ready (rs := [11]) (by kernel_rfl) (by simp) ?_
            refine AllReadyH.cons (o := _) rfl (fun K hK => ?_) AllReadyH.nil
            go_simp
            obtain ⟨wk5, hwk⟩ : ∃ wk, wk = World.alloc wk4 (.cells #[.int .i64 0, .int .i64 0, .int .i64 0, .int .i64 0, .int .i64 0, .int .i64 0, .int .i64 0, .int .i64 0, .int .i64 0, .int .i64 0, .int .i64 0, .int .i64 0, .int .i64 0, .int .i64 0, .int .i64 0, .slice none 0 0, .int .i64 0, .slice none 0 0] 34) := ⟨_, rfl⟩
            have b1 : Below wk4.heap.size wk4 wk5 := by rw [hwk]; exact ((Below.refl _ _).alloc (Nat.le_refl _) _)
            have Bx5 := hide (show Blk wk5 wk4.heap.size zMO 34 from by rw [hwk]; exact Blk.new wk4 _ _)
            rw [← hwk]
            have Y5 := hide (show Below w0.heap.size w0 wk5 from Y4.out.trans (b1.mono Y4.out.size))
            have X5 := hide (show Below w0.heap.size w0 wk5 from X0.out.trans (Y5.out.mono X0.out.size))
            have Ow5 := hide (own_belowT Ow4.out b1)
            have Op5 := hide (Op4.out.below b1)
            refine hK.out _ _ (K0.out.below X5.out K0.out.lt) (fun hH => ?_)
            clear hK K b1 hwk
            try simp only [Act.put, getElem_toArray, getElem_cons_zero, getElem_cons_succ, setIfInBounds_toArray, set_cons_zero, set_cons_succ]
            refine wpAnyH_ready (rs := [12]) (by kernel_rfl) (by simp) ?_
            refine AllReadyH.cons (o := _) rfl (fun K hK => ?_) AllReadyH.nil
            rw [if_pos (by rfl)]
            refine wp_store_row 34 _ _ rfl wk4.heap.size M4 rfl rfl 34 zMO Bx5.out (by rw [HM4.out]; exact HInM.out _ _) (by rw [HM4.out, moC_size HL.out.1]; rfl) (by rw [HM4.out]; exact HOne.out _ _ _ _ _ _) ?_
            obtain ⟨we6, hwe⟩ : ∃ we, we = World.setRow wk5 wk4.heap.size M4 := ⟨_, rfl⟩
            rw [← hwe]
            have KM6 := hide (show Blk we6 wk4.heap.size M4 34 from by rw [hwe]; exact Bx5.out.row _)
            have Ye6 := hide (show Below w0.heap.size w0 we6 from by rw [hwe]; exact below_setRow Y5.out Y4.out.size _)
            have Rw6 := hide (show Rd .i64 we6 (.slice xa4 WW.length xc4) WW from by rw [hwe]; exact Rd.own (own_setRowT Ow5.out Bx5.out (by decide)))
            have Rp6 := hide (show RdN we6 1 (.slice ya4 (PP.map neP).length yc4) (PP.map neP) us4 from by rw [hwe]; exact (Op5.out.offMO Bx5.out _).rd)
            refine hK.out _ _ (K0.out.below (X0.out.trans (Ye6.out.mono X0.out.size)) K0.out.lt) (fun hH => ?_)
            clear hK K hwe
            try simp only [Act.put, getElem_toArray, getElem_cons_zero, getElem_cons_succ, setIfInBounds_toArray, set_cons_zero, set_cons_succ]
            refine wpAnyH_take (i := 13) (oi := _) (v := .int .i64 c) rfl (by kernel_rfl) (by kernel_rfl) (by kernel_rfl) (fun _ _ _ h => h) (Or.inl ⟨by rfl, fun w' hw' => by go_simp⟩) hH ?_
            try simp only [Act.put, getElem_toArray, getElem_cons_zero, getElem_cons_succ, setIfInBounds_toArray, set_cons_zero, set_cons_succ]
            refine wpAnyH_done (by kernel_rfl) (NoPanic.normal ?_) _
            refine hKc _ _ (Met.intro (hJc _ _ ?_))
            (repeat apply Exists.intro)
            exact ⟨⟨rfl, wk4.heap.size, rfl, M4, xa4, xc4, ya4, yc4, us4, HM4.out, KM6.out, Rw6.out, Rp6.out, Ye6.out⟩, rfl⟩
          · go_simp
            obtain ⟨wk7, hwk⟩ : ∃ wk, wk = World.alloc wk3 (.cells #[.int .i64 0, .int .i64 0, .int .i64 0, .int .i64 0, .int .i64 0, .int .i64 0, .int .i64 0, .int .i64 0, .int .i64 0, .int .i64 0, .int .i64 0, .int .i64 0, .int .i64 0, .int .i64 0, .int .i64 0, .slice none 0 0, .int .i64 0, .slice none 0 0] 34) := ⟨_, rfl⟩
            have b1 : Below wk3.heap.size wk3 wk7 := by rw [hwk]; exact ((Below.refl _ _).alloc (Nat.le_refl _) _)
            have Bx7 := hide (show Blk wk7 wk3.heap.size zMO 34 from by rw [hwk]; exact Blk.new wk3 _ _)
            rw [← hwk]
            have Y7 := hide (show Below w0.heap.size w0 wk7 from Y3.out.trans (b1.mono Y3.out.size))
            have X7 := hide (show Below w0.heap.size w0 wk7 from X0.out.trans (Y7.out.mono X0.out.size))
            have Qr17 := hide (own_belowT Qr13.out b1)
            have Qr27 := hide (own_belowT O3.out b1)
            refine hK.out _ _ (K0.out.below X7.out K0.out.lt) (fun hH => ?_)
            clear hK K b1 hwk
            try simp only [Act.put, getElem_toArray, getElem_cons_zero, getElem_cons_succ, setIfInBounds_toArray, set_cons_zero, set_cons_succ]
            refine wpAnyH_ready (rs := [7]) (by kernel_rfl) (by simp) ?_
            refine AllReadyH.cons (o := _) rfl (fun K hK => ?_) AllReadyH.nil
            go_simp
            refine (HS.out va1 vb3 wk7 (Rd.own Qr17.out) (Rd.own Qr27.out)).mono ?_
            rintro e wk8 ⟨uw, up, us8, rfl, o4, p4, b1⟩
            obtain ⟨xa8, xc8, rfl⟩ := own_shape o4
            obtain ⟨ya8, yc8, hup⟩ := own_shape p4.row
            subst hup
            have Ow8 := hide o4
            have Op8 := hide p4
            obtain ⟨M8, hM⟩ : ∃ M, M = moC RL (.slice xa8 WW.length xc8) U (.slice ya8 (PP.map neP).length yc8) := ⟨_, rfl⟩
            rw [← hM]
            have HM8 := hide hM
            have Y8 := hide (show Below w0.heap.size w0 wk8 from Y7.out.trans (b1.mono Y7.out.size))
            have X8 := hide (show Below w0.heap.size w0 wk8 from X0.out.trans (Y8.out.mono X0.out.size))
            have Qr18 := hide (own_belowT Qr17.out b1)
            have Qr28 := hide (own_belowT Qr27.out b1)
            have Bx8 := hide (Bx7.out.below b1 Bx7.out.lt)
            clear o4 p4 hM
            refine hK.out _ _ (K0.out.below X8.out K0.out.lt) (fun hH => ?_)
            clear hK K b1
            try simp only [Act.put, getElem_toArray, getElem_cons_zero, getElem_cons_succ, setIfInBounds_toArray, set_cons_zero, set_cons_succ]
            refine wpAnyH_take (i := 8) (oi := _) (v := .tuple #[.agg M8, .int .i64 c]) rfl (by kernel_rfl) (by kernel_rfl) (by kernel_rfl) (fun _ _ _ h => h) (Or.inl ⟨by rfl, fun w' hw' => by go_simp⟩) hH ?_
            try simp only [Act.put, getElem_toArray, getElem_cons_zero, getElem_cons_succ, setIfInBounds_toArray, set_cons_zero, set_cons_succ]
            refine wpAnyH_take (i := 9) (oi := _) (v := .agg M8) rfl (by kernel_rfl) (by kernel_rfl) (by kernel_rfl) (fun _ _ _ h => h) (Or.inl ⟨by rfl, fun w' hw' => by go_simp⟩) hH ?_
            try simp only [Act.put, getElem_toArray, getElem_cons_zero, getElem_cons_succ, setIfInBounds_toArray, set_cons_zero, set_cons_succ]
            refine wpAnyH_take (i := 10) (oi := _) (v := .int .i64 c) rfl (by kernel_rfl) (by kernel_rfl) (by kernel_rfl) (fun _ _ _ h => h) (Or.inl ⟨by rfl, fun w' hw' => by go_simp⟩) hH ?_
            try simp only [Act.put, getElem_toArray, getElem_cons_zero, getElem_cons_succ, setIfInBounds_toArray, set_cons_zero, set_cons_succ]
            refine wpAnyH_ready (rs := [12]) (by kernel_rfl) (by simp) ?_
            refine AllReadyH.cons (o := _) rfl (fun K hK => ?_) AllReadyH.nil
            rw [if_pos (by rfl)]
            refine wp_store_row 34 _ _ rfl wk3.heap.size M8 rfl rfl 34 zMO Bx8.out (by rw [HM8.out]; exact HInM.out _ _) (by rw [HM8.out, moC_size HL.out.1]; rfl) (by rw [HM8.out]; exact HOne.out _ _ _ _ _ _) ?_
            obtain ⟨we9, hwe⟩ : ∃ we, we = World.setRow wk8 wk3.heap.size M8 := ⟨_, rfl⟩
            rw [← hwe]
            have KM9 := hide (show Blk we9 wk3.heap.size M8 34 from by rw [hwe]; exact Bx8.out.row _)
            have Ye9 := hide (show Below w0.heap.size w0 we9 from by rw [hwe]; exact below_setRow Y8.out Y3.out.size _)
            have Rw9 := hide (show Rd .i64 we9 (.slice xa8 WW.length xc8) WW from by rw [hwe]; exact Rd.own (own_setRowT Ow8.out Bx8.out (by decide)))
            have Rp9 := hide (show RdN we9 1 (.slice ya8 (PP.map neP).length yc8) (PP.map neP) us8 from by rw [hwe]; exact (Op8.out.offMO Bx8.out _).rd)
            refine hK.out _ _ (K0.out.below (X0.out.trans (Ye9.out.mono X0.out.size)) K0.out.lt) (fun hH => ?_)
            clear hK K hwe
            try simp only [Act.put, getElem_toArray, getElem_cons_zero, getElem_cons_succ, setIfInBounds_toArray, set_cons_zero, set_cons_succ]
            refine wpAnyH_take (i := 13) (oi := _) (v := .int .i64 c) rfl (by kernel_rfl) (by kernel_rfl) (by kernel_rfl) (fun _ _ _ h => h) (Or.inl ⟨by rfl, fun w' hw' => by go_simp⟩) hH ?_
            try simp only [Act.put, getElem_toArray, getElem_cons_zero, getElem_cons_succ, setIfInBounds_toArray, set_cons_zero, set_cons_succ]
            refine wpAnyH_done (by kernel_rfl) (NoPanic.normal ?_) _
            refine hKc _ _ (Met.intro (hJc _ _ ?_))
            (repeat apply Exists.intro)
            exact ⟨⟨rfl, wk3.heap.size, rfl, M8, xa8, xc8, ya8, yc8, us8, HM8.out, KM9.out, Rw9.out, Rp9.out, Ye9.out⟩, rfl⟩
        · go_simp
          obtain ⟨wk10, hwk⟩ : ∃ wk, wk = World.alloc wk2 (.cells #[.int .i64 0, .int .i64 0, .int .i64 0, .int .i64 0, .int .i64 0, .int .i64 0, .int .i64 0, .int .i64 0, .int .i64 0, .int .i64 0, .int .i64 0, .int .i64 0, .int .i64 0, .int .i64 0, .int .i64 0, .slice none 0 0, .int .i64 0, .slice none 0 0] 34) := ⟨_, rfl⟩
          have b1 : Below wk2.heap.size wk2 wk10 := by rw [hwk]; exact ((Below.refl _ _).alloc (Nat.le_refl _) _)
          have Bx10 := hide (show Blk wk10 wk2.heap.size zMO 34 from by rw [hwk]; exact Blk.new wk2 _ _)
          rw [← hwk]
          have Y10 := hide (show Below w0.heap.size w0 wk10 from Y2.out.trans (b1.mono Y2.out.size))
          have X10 := hide (show Below w0.heap.size w0 wk10 from X0.out.trans (Y10.out.mono X0.out.size))
          have Qr110 := hide (own_belowT Qr12.out b1)
          refine hK.out _ _ (K0.out.below X10.out K0.out.lt) (fun hH => ?_)
          clear hK K b1 hwk
          try simp only [Act.put, getElem_toArray, getElem_cons_zero, getElem_cons_succ, setIfInBounds_toArray, set_cons_zero, set_cons_succ]
          refine wpAnyH_ready (rs := [5]) (by kernel_rfl) (by simp) ?_
          refine AllReadyH.cons (o := _) rfl (fun K hK => ?_) AllReadyH.nil
          go_simp
          refine (toIntS_any _ ws _ (by rw [HN.out.2]; exact H.out.2.1.below X10.out) (by have := HN.out.2; omega)).mono ?_
          rintro e wk11 ⟨vb11, rfl, o1, b1⟩
          have O11 := hide o1
          have Y11 := hide (show Below w0.heap.size w0 wk11 from Y10.out.trans (b1.mono Y10.out.size))
          have X11 := hide (show Below w0.heap.size w0 wk11 from X0.out.trans (Y11.out.mono X0.out.size))
          have Qr111 := hide (own_belowT Qr110.out b1)
          have Bx11 := hide (Bx10.out.below b1 Bx10.out.lt)
          clear o1
          refine hK.out _ _ (K0.out.below X11.out K0.out.lt) (fun hH => ?_)
          clear hK K b1
          try simp only [Act.put, getElem_toArray, getElem_cons_zero, getElem_cons_succ, setIfInBounds_toArray, set_cons_zero, set_cons_succ]
          refine wpAnyH_ready (rs := [7]) (by kernel_rfl) (by simp) ?_
          refine AllReadyH.cons (o := _) rfl (fun K hK => ?_) AllReadyH.nil
          go_simp
          refine (HS.out va1 vb11 wk11 (Rd.own Qr111.out) (Rd.own O11.out)).mono ?_
          rintro e wk12 ⟨uw, up, us12, rfl, o4, p4, b1⟩
          obtain ⟨xa12, xc12, rfl⟩ := own_shape o4
          obtain ⟨ya12, yc12, hup⟩ := own_shape p4.row
          subst hup
          have Ow12 := hide o4
          have Op12 := hide p4
          obtain ⟨M12, hM⟩ : ∃ M, M = moC RL (.slice xa12 WW.length xc12) U (.slice ya12 (PP.map neP).length yc12) := ⟨_, rfl⟩
          rw [← hM]
          have HM12 := hide hM
          have Y12 := hide (show Below w0.heap.size w0 wk12 from Y11.out.trans (b1.mono Y11.out.size))
          have X12 := hide (show Below w0.heap.size w0 wk12 from X0.out.trans (Y12.out.mono X0.out.size))
          have Qr112 := hide (own_belowT Qr111.out b1)
          have Qr212 := hide (own_belowT O11.out b1)
          have Bx12 := hide (Bx11.out.below b1 Bx11.out.lt)
          clear o4 p4 hM
          refine hK.out _ _ (K0.out.below X12.out K0.out.lt) (fun hH => ?_)
          clear hK K b1
          try simp only [Act.put, getElem_toArray, getElem_cons_zero, getElem_cons_succ, setIfInBounds_toArray, set_cons_zero, set_cons_succ]
          refine wpAnyH_take (i := 8) (oi := _) (v := .tuple #[.agg M12, .int .i64 c]) rfl (by kernel_rfl) (by kernel_rfl) (by kernel_rfl) (fun _ _ _ h => h) (Or.inl ⟨by rfl, fun w' hw' => by go_simp⟩) hH ?_
          try simp only [Act.put, getElem_toArray, getElem_cons_zero, getElem_cons_succ, setIfInBounds_toArray, set_cons_zero, set_cons_succ]
          refine wpAnyH_take (i := 9) (oi := _) (v := .agg M12) rfl (by kernel_rfl) (by kernel_rfl) (by kernel_rfl) (fun _ _ _ h => h) (Or.inl ⟨by rfl, fun w' hw' => by go_simp⟩) hH ?_
          try simp only [Act.put, getElem_toArray, getElem_cons_zero, getElem_cons_succ, setIfInBounds_toArray, set_cons_zero, set_cons_succ]
          refine wpAnyH_take (i := 10) (oi := _) (v := .int .i64 c) rfl (by kernel_rfl) (by kernel_rfl) (by kernel_rfl) (fun _ _ _ h => h) (Or.inl ⟨by rfl, fun w' hw' => by go_simp⟩) hH ?_
          try simp only [Act.put, getElem_toArray, getElem_cons_zero, getElem_cons_succ, setIfInBounds_toArray, set_cons_zero, set_cons_succ]
          refine wpAnyH_ready (rs := [12]) (by kernel_rfl) (by simp) ?_
          refine AllReadyH.cons (o := _) rfl (fun K hK => ?_) AllReadyH.nil
          rw [if_pos (by rfl)]
          refine wp_store_row 34 _ _ rfl wk2.heap.size M12 rfl rfl 34 zMO Bx12.out (by rw [HM12.out]; exact HInM.out _ _) (by rw [HM12.out, moC_size HL.out.1]; rfl) (by rw [HM12.out]; exact HOne.out _ _ _ _ _ _) ?_
          obtain ⟨we13, hwe⟩ : ∃ we, we = World.setRow wk12 wk2.heap.size M12 := ⟨_, rfl⟩
          rw [← hwe]
          have KM13 := hide (show Blk we13 wk2.heap.size M12 34 from by rw [hwe]; exact Bx12.out.row _)
          have Ye13 := hide (show Below w0.heap.size w0 we13 from by rw [hwe]; exact below_setRow Y12.out Y2.out.size _)
          have Rw13 := hide (show Rd .i64 we13 (.slice xa12 WW.length xc12) WW from by rw [hwe]; exact Rd.own (own_setRowT Ow12.out Bx12.out (by decide)))
          have Rp13 := hide (show RdN we13 1 (.slice ya12 (PP.map neP).length yc12) (PP.map neP) us12 from by rw [hwe]; exact (Op12.out.offMO Bx12.out _).rd)
          refine hK.out _ _ (K0.out.below (X0.out.trans (Ye13.out.mono X0.out.size)) K0.out.lt) (fun hH => ?_)
          clear hK K hwe
          try simp only [Act.put, getElem_toArray, getElem_cons_zero, getElem_cons_succ, setIfInBounds_toArray, set_cons_zero, set_cons_succ]
          refine wpAnyH_take (i := 13) (oi := _) (v := .int .i64 c) rfl (by kernel_rfl) (by kernel_rfl) (by kernel_rfl) (fun _ _ _ h => h) (Or.inl ⟨by rfl, fun w' hw' => by go_simp⟩) hH ?_
          try simp only [Act.put, getElem_toArray, getElem_cons_zero, getElem_cons_succ, setIfInBounds_toArray, set_cons_zero, set_cons_succ]
          refine wpAnyH_done (by kernel_rfl) (NoPanic.normal ?_) _
          refine hKc _ _ (Met.intro (hJc _ _ ?_))
          (repeat apply Exists.intro)
          exact ⟨⟨rfl, wk2.heap.size, rfl, M12, xa12, xc12, ya12, yc12, us12, HM12.out, KM13.out, Rw13.out, Rp13.out, Ye13.out⟩, rfl⟩
      · go_simp
        obtain ⟨wk14, hwk⟩ : ∃ wk, wk = World.alloc wk1 (.cells #[.int .i64 0, .int .i64 0, .int .i64 0, .int .i64 0, .int .i64 0, .int .i64 0, .int .i64 0, .int .i64 0, .int .i64 0, .int .i64 0, .int .i64 0, .int .i64 0, .int .i64 0, .int .i64 0, .int .i64 0, .slice none 0 0, .int .i64 0, .slice none 0 0] 34) := ⟨_, rfl⟩
        have b1 : Below wk1.heap.size wk1 wk14 := by rw [hwk]; exact ((Below.refl _ _).alloc (Nat.le_refl _) _)
        have Bx14 := hide (show Blk wk14 wk1.heap.size zMO 34 from by rw [hwk]; exact Blk.new wk1 _ _)
        rw [← hwk]
        have Y14 := hide (show Below w0.heap.size w0 wk14 from Y1.out.trans (b1.mono Y1.out.size))
        have X14 := hide (show Below w0.heap.size w0 wk14 from X0.out.trans (Y14.out.mono X0.out.size))
        have Qr114 := hide (own_belowT O1.out b1)
        refine hK.out _ _ (K0.out.below X14.out K0.out.lt) (fun hH => ?_)
        clear hK K b1 hwk
        try simp only [Act.put, getElem_toArray, getElem_cons_zero, getElem_cons_succ, setIfInBounds_toArray, set_cons_zero, set_cons_succ]
        refine wpAnyH_ready (rs := [3]) (by kernel_rfl) (by simp) ?_
        refine AllReadyH.cons (o := _) rfl (fun K hK => ?_) AllReadyH.nil
        go_simp
        refine (HTo.out _).mono ?_
        rintro e wk15 ⟨rfl, b1⟩
        have Y15 := hide (show Below w0.heap.size w0 wk15 from Y14.out.trans (b1.mono Y14.out.size))
        have X15 := hide (show Below w0.heap.size w0 wk15 from X0.out.trans (Y15.out.mono X0.out.size))
        have Qr115 := hide (own_belowT Qr114.out b1)
        have Bx15 := hide (Bx14.out.below b1 Bx14.out.lt)
        refine hK.out _ _ (K0.out.below X15.out K0.out.lt) (fun hH => ?_)
        clear hK K b1
        try simp only [Act.put, getElem_toArray, getElem_cons_zero, getElem_cons_succ, setIfInBounds_toArray, set_cons_zero, set_cons_succ]
        refine wpAnyH_ready (rs := [5]) (by kernel_rfl) (by simp) ?_
        refine AllReadyH.cons (o := _) rfl (fun K hK => ?_) AllReadyH.nil
        go_simp
        refine (toIntS_any _ ws _ (by rw [HN.out.2]; exact H.out.2.1.below X15.out) (by have := HN.out.2; omega)).mono ?_
        rintro e wk16 ⟨vb16, rfl, o1, b1⟩
        have O16 := hide o1
        have Y16 := hide (show Below w0.heap.size w0 wk16 from Y15.out.trans (b1.mono Y15.out.size))
        have X16 := hide (show Below w0.heap.size w0 wk16 from X0.out.trans (Y16.out.mono X0.out.size))
        have Qr116 := hide (own_belowT Qr115.out b1)
        have Bx16 := hide (Bx15.out.below b1 Bx15.out.lt)
        clear o1
        refine hK.out _ _ (K0.out.below X16.out K0.out.lt) (fun hH => ?_)
        clear hK K b1
        try simp only [Act.put, getElem_toArray, getElem_cons_zero, getElem_cons_succ, setIfInBounds_toArray, set_cons_zero, set_cons_succ]
        refine wpAnyH_ready (rs := [7]) (by kernel_rfl) (by simp) ?_
        refine AllReadyH.cons (o := _) rfl (fun K hK => ?_) AllReadyH.nil
        go_simp
        refine (HS.out va1 vb16 wk16 (Rd.own Qr116.out) (Rd.own O16.out)).mono ?_
        rintro e wk17 ⟨uw, up, us17, rfl, o4, p4, b1⟩
        obtain ⟨xa17, xc17, rfl⟩ := own_shape o4
        obtain ⟨ya17, yc17, hup⟩ := own_shape p4.row
        subst hup
        have Ow17 := hide o4
        have Op17 := hide p4
        obtain ⟨M17, hM⟩ : ∃ M, M = moC RL (.slice xa17 WW.length xc17) U (.slice ya17 (PP.map neP).length yc17) := ⟨_, rfl⟩
        rw [← hM]
        have HM17 := hide hM
        have Y17 := hide (show Below w0.heap.size w0 wk17 from Y16.out.trans (b1.mono Y16.out.size))
        have X17 := hide (show Below w0.heap.size w0 wk17 from X0.out.trans (Y17.out.mono X0.out.size))
        have Qr117 := hide (own_belowT Qr116.out b1)
        have Qr217 := hide (own_belowT O16.out b1)
        have Bx17 := hide (Bx16.out.below b1 Bx16.out.lt)
        clear o4 p4 hM
        refine hK.out _ _ (K0.out.below X17.out K0.out.lt) (fun hH => ?_)
        clear hK K b1
        try simp only [Act.put, getElem_toArray, getElem_cons_zero, getElem_cons_succ, setIfInBounds_toArray, set_cons_zero, set_cons_succ]
        refine wpAnyH_take (i := 8) (oi := _) (v := .tuple #[.agg M17, .int .i64 c]) rfl (by kernel_rfl) (by kernel_rfl) (by kernel_rfl) (fun _ _ _ h => h) (Or.inl ⟨by rfl, fun w' hw' => by go_simp⟩) hH ?_
        try simp only [Act.put, getElem_toArray, getElem_cons_zero, getElem_cons_succ, setIfInBounds_toArray, set_cons_zero, set_cons_succ]
        refine wpAnyH_take (i := 9) (oi := _) (v := .agg M17) rfl (by kernel_rfl) (by kernel_rfl) (by kernel_rfl) (fun _ _ _ h => h) (Or.inl ⟨by rfl, fun w' hw' => by go_simp⟩) hH ?_
        try simp only [Act.put, getElem_toArray, getElem_cons_zero, getElem_cons_succ, setIfInBounds_toArray, set_cons_zero, set_cons_succ]
        refine wpAnyH_take (i := 10) (oi := _) (v := .int .i64 c) rfl (by kernel_rfl) (by kernel_rfl) (by kernel_rfl) (fun _ _ _ h => h) (Or.inl ⟨by rfl, fun w' hw' => by go_simp⟩) hH ?_
        try simp only [Act.put, getElem_toArray, getElem_cons_zero, getElem_cons_succ, setIfInBounds_toArray, set_cons_zero, set_cons_succ]
        refine wpAnyH_ready (rs := [12]) (by kernel_rfl) (by simp) ?_
        refine AllReadyH.cons (o := _) rfl (fun K hK => ?_) AllReadyH.nil
        rw [if_pos (by rfl)]
        refine wp_store_row 34 _ _ rfl wk1.heap.size M17 rfl rfl 34 zMO Bx17.out (by rw [HM17.out]; exact HInM.out _ _) (by rw [HM17.out, moC_size HL.out.1]; rfl) (by rw [HM17.out]; exact HOne.out _ _ _ _ _ _) ?_
        obtain ⟨we18, hwe⟩ : ∃ we, we = World.setRow wk17 wk1.heap.size M17 := ⟨_, rfl⟩
        rw [← hwe]
        have KM18 := hide (show Blk we18 wk1.heap.size M17 34 from by rw [hwe]; exact Bx17.out.row _)
        have Ye18 := hide (show Below w0.heap.size w0 we18 from by rw [hwe]; exact below_setRow Y17.out Y1.out.size _)
        have Rw18 := hide (show Rd .i64 we18 (.slice xa17 WW.length xc17) WW from by rw [hwe]; exact Rd.own (own_setRowT Ow17.out Bx17.out (by decide)))
        have Rp18 := hide (show RdN we18 1 (.slice ya17 (PP.map neP).length yc17) (PP.map neP) us17 from by rw [hwe]; exact (Op17.out.offMO Bx17.out _).rd)
        refine hK.out _ _ (K0.out.below (X0.out.trans (Ye18.out.mono X0.out.size)) K0.out.lt) (fun hH => ?_)
        clear hK K hwe
        try simp only [Act.put, getElem_toArray, getElem_cons_zero, getElem_cons_succ, setIfInBounds_toArray, set_cons_zero, set_cons_succ]
        refine wpAnyH_take (i := 13) (oi := _) (v := .int .i64 c) rfl (by kernel_rfl) (by kernel_rfl) (by kernel_rfl) (fun _ _ _ h => h) (Or.inl ⟨by rfl, fun w' hw' => by go_simp⟩) hH ?_
        try simp only [Act.put, getElem_toArray, getElem_cons_zero, getElem_cons_succ, setIfInBounds_toArray, set_cons_zero, set_cons_succ]
        refine wpAnyH_done (by kernel_rfl) (NoPanic.normal ?_) _
        refine hKc _ _ (Met.intro (hJc _ _ ?_))
        (repeat apply Exists.intro)
        exact ⟨⟨rfl, wk1.heap.size, rfl, M17, xa17, xc17, ya17, yc17, us17, HM17.out, KM18.out, Rw18.out, Rp18.out, Ye18.out⟩, rfl⟩
    · go_simp
      obtain ⟨wk19, hwk⟩ : ∃ wk, wk = World.drew (World.alloc w0 (.cells #[.int .i64 0, .int .i64 0, .int .i64 0, .int .i64 0, .int .i64 0, .int .i64 0, .int .i64 0, .int .i64 0, .int .i64 0, .int .i64 0, .int .i64 0, .int .i64 0, .int .i64 0, .int .i64 0, .int .i64 0, .slice none 0 0, .int .i64 0, .slice none 0 0] 34)) := ⟨_, rfl⟩
      have b1 : Below w0.heap.size w0 wk19 := by rw [hwk]; exact ((Below.refl _ _).alloc (Nat.le_refl _) _).drew
      have Bx19 := hide (show Blk wk19 w0.heap.size zMO 34 from by rw [hwk]; exact Blk.new w0 _ _)
      rw [← hwk]
      have Y19 := hide (show Below w0.heap.size w0 wk19 from b1)
      have X19 := hide (show Below w0.heap.size w0 wk19 from X0.out.trans (Y19.out.mono X0.out.size))
      refine hK.out _ _ (K0.out.below X19.out K0.out.lt) (fun hH => ?_)
      clear hK K b1 hwk
      try simp only [Act.put, getElem_toArray, getElem_cons_zero, getElem_cons_succ, setIfInBounds_toArray, set_cons_zero, set_cons_succ]
      refine wpAnyH_ready (rs := [1]) (by kernel_rfl) (by simp) ?_
      refine AllReadyH.cons (o := _) rfl (fun K hK => ?_) AllReadyH.nil
      go_simp
      refine (toByteS_any _ zs _ (by rw [HN.out.1]; exact H.out.1.below X19.out) (by have := HN.out.1; omega)).mono ?_
      rintro e wk20 ⟨va20, rfl, o1, b1⟩
      have O20 := hide o1
      have Y20 := hide (show Below w0.heap.size w0 wk20 from Y19.out.trans (b1.mono Y19.out.size))
      have X20 := hide (show Below w0.heap.size w0 wk20 from X0.out.trans (Y20.out.mono X0.out.size))
      have Bx20 := hide (Bx19.out.below b1 Bx19.out.lt)
      clear o1
      refine hK.out _ _ (K0.out.below X20.out K0.out.lt) (fun hH => ?_)
      clear hK K b1
      try simp only [Act.put, getElem_toArray, getElem_cons_zero, getElem_cons_succ, setIfInBounds_toArray, set_cons_zero, set_cons_succ]
      refine wpAnyH_ready (rs := [3]) (by kernel_rfl) (by simp) ?_
      refine AllReadyH.cons (o := _) rfl (fun K hK => ?_) AllReadyH.nil
      go_simp
      refine (HTo.out _).mono ?_
      rintro e wk21 ⟨rfl, b1⟩
      have Y21 := hide (show Below w0.heap.size w0 wk21 from Y20.out.trans (b1.mono Y20.out.size))
      have X21 := hide (show Below w0.heap.size w0 wk21 from X0.out.trans (Y21.out.mono X0.out.size))
      have Qr121 := hide (own_belowT O20.out b1)
      have Bx21 := hide (Bx20.out.below b1 Bx20.out.lt)
      refine hK.out _ _ (K0.out.below X21.out K0.out.lt) (fun hH => ?_)
      clear hK K b1
      try simp only [Act.put, getElem_toArray, getElem_cons_zero, getElem_cons_succ, setIfInBounds_toArray, set_cons_zero, set_cons_succ]
      refine wpAnyH_ready (rs := [5]) (by kernel_rfl) (by simp) ?_
      refine AllReadyH.cons (o := _) rfl (fun K hK => ?_) AllReadyH.nil
      go_simp
      refine (toIntS_any _ ws _ (by rw [HN.out.2]; exact H.out.2.1.below X21.out) (by have := HN.out.2; omega)).mono ?_
      rintro e wk22 ⟨vb22, rfl, o1, b1⟩
      have O22 := hide o1
      have Y22 := hide (show Below w0.heap.size w0 wk22 from Y21.out.trans (b1.mono Y21.out.size))
      have X22 := hide (show Below w0.heap.size w0 wk22 from X0.out.trans (Y22.out.mono X0.out.size))
      have Qr122 := hide (own_belowT Qr121.out b1)
      have Bx22 := hide (Bx21.out.below b1 Bx21.out.lt)
      clear o1
      refine hK.out _ _ (K0.out.below X22.out K0.out.lt) (fun hH => ?_)
      clear hK K b1
      try simp only [Act.put, getElem_toArray, getElem_cons_zero, getElem_cons_succ, setIfInBounds_toArray, set_cons_zero, set_cons_succ]
      refine wpAnyH_ready (rs := [7]) (by kernel_rfl) (by simp) ?_
      refine AllReadyH.cons (o := _) rfl (fun K hK => ?_) AllReadyH.nil
      go_simp
      refine (HS.out va20 vb22 wk22 (Rd.own Qr122.out) (Rd.own O22.out)).mono ?_
      rintro e wk23 ⟨uw, up, us23, rfl, o4, p4, b1⟩
      obtain ⟨xa23, xc23, rfl⟩ := own_shape o4
      obtain ⟨ya23, yc23, hup⟩ := own_shape p4.row
      subst hup
      have Ow23 := hide o4
      have Op23 := hide p4
      obtain ⟨M23, hM⟩ : ∃ M, M = moC RL (.slice xa23 WW.length xc23) U (.slice ya23 (PP.map neP).length yc23) := ⟨_, rfl⟩
      rw [← hM]
      have HM23 := hide hM
      have Y23 := hide (show Below w0.heap.size w0 wk23 from Y22.out.trans (b1.mono Y22.out.size))
      have X23 := hide (show Below w0.heap.size w0 wk23 from X0.out.trans (Y23.out.mono X0.out.size))
      have Qr123 := hide (own_belowT Qr122.out b1)
      have Qr223 := hide (own_belowT O22.out b1)
      have Bx23 := hide (Bx22.out.below b1 Bx22.out.lt)
      clear o4 p4 hM
      refine hK.out _ _ (K0.out.below X23.out K0.out.lt) (fun hH => ?_)
      clear hK K b1
      try simp only [Act.put, getElem_toArray, getElem_cons_zero, getElem_cons_succ, setIfInBounds_toArray, set_cons_zero, set_cons_succ]
      refine wpAnyH_take (i := 8) (oi := _) (v := .tuple #[.agg M23, .int .i64 c]) rfl (by kernel_rfl) (by kernel_rfl) (by kernel_rfl) (fun _ _ _ h => h) (Or.inl ⟨by rfl, fun w' hw' => by go_simp⟩) hH ?_
      try simp only [Act.put, getElem_toArray, getElem_cons_zero, getElem_cons_succ, setIfInBounds_toArray, set_cons_zero, set_cons_succ]
      refine wpAnyH_take (i := 9) (oi := _) (v := .agg M23) rfl (by kernel_rfl) (by kernel_rfl) (by kernel_rfl) (fun _ _ _ h => h) (Or.inl ⟨by rfl, fun w' hw' => by go_simp⟩) hH ?_
      try simp only [Act.put, getElem_toArray, getElem_cons_zero, getElem_cons_succ, setIfInBounds_toArray, set_cons_zero, set_cons_succ]
      refine wpAnyH_take (i := 10) (oi := _) (v := .int .i64 c) rfl (by kernel_rfl) (by kernel_rfl) (by kernel_rfl) (fun _ _ _ h => h) (Or.inl ⟨by rfl, fun w' hw' => by go_simp⟩) hH ?_
      try simp only [Act.put, getElem_toArray, getElem_cons_zero, getElem_cons_succ, setIfInBounds_toArray, set_cons_zero, set_cons_succ]
      refine wpAnyH_ready (rs := [12]) (by kernel_rfl) (by simp) ?_
      refine AllReadyH.cons (o := _) rfl (fun K hK => ?_) AllReadyH.nil
      rw [if_pos (by rfl)]
      refine wp_store_row 34 _ _ rfl w0.heap.size M23 rfl rfl 34 zMO Bx23.out (by rw [HM23.out]; exact HInM.out _ _) (by rw [HM23.out, moC_size HL.out.1]; rfl) (by rw [HM23.out]; exact HOne.out _ _ _ _ _ _) ?_
      obtain ⟨we24, hwe⟩ : ∃ we, we = World.setRow wk23 w0.heap.size M23 := ⟨_, rfl⟩
      rw [← hwe]
      have KM24 := hide (show Blk we24 w0.heap.size M23 34 from by rw [hwe]; exact Bx23.out.row _)
      have Ye24 := hide (show Below w0.heap.size w0 we24 from by rw [hwe]; exact below_setRow Y23.out (Nat.le_refl _) _)
      have Rw24 := hide (show Rd .i64 we24 (.slice xa23 WW.length xc23) WW from by rw [hwe]; exact Rd.own (own_setRowT Ow23.out Bx23.out (by decide)))
      have Rp24 := hide (show RdN we24 1 (.slice ya23 (PP.map neP).length yc23) (PP.map neP) us23 from by rw [hwe]; exact (Op23.out.offMO Bx23.out _).rd)
      refine hK.out _ _ (K0.out.below (X0.out.trans (Ye24.out.mono X0.out.size)) K0.out.lt) (fun hH => ?_)
      clear hK K hwe
      try simp only [Act.put, getElem_toArray, getElem_cons_zero, getElem_cons_succ, setIfInBounds_toArray, set_cons_zero, set_cons_succ]
      refine wpAnyH_take (i := 13) (oi := _) (v := .int .i64 c) rfl (by kernel_rfl) (by kernel_rfl) (by kernel_rfl) (fun _ _ _ h => h) (Or.inl ⟨by rfl, fun w' hw' => by go_simp⟩) hH ?_
      try simp only [Act.put, getElem_toArray, getElem_cons_zero, getElem_cons_succ, setIfInBounds_toArray, set_cons_zero, set_cons_succ]
      refine wpAnyH_done (by kernel_rfl) (NoPanic.normal ?_) _
      refine hKc _ _ (Met.intro (hJc _ _ ?_))
      (repeat apply Exists.intro)
      exact ⟨⟨rfl, w0.heap.size, rfl, M23, xa23, xc23, ya23, yc23, us23, HM23.out, KM24.out, Rw24.out, Rp24.out, Ye24.out⟩, rfl⟩
  case rest =>
  obtain ⟨rfl, bS, rfl, MS, xaS, xcS, yaS, ycS, usS, hMS, kMS, rwS, rpS, bS0⟩ := hcut
  rename World => wS
  have HMS := hide hMS
  have KS := hide kMS
  have RS := hide (And.intro rwS rpS)
  have XS := hide bS0
  clear hMS kMS rwS rpS bS0
  have SB0 := hide (Below.refl wS.heap.size wS)
  go_wp2_with (go_at_call 16; fail)
  refine (toByteS_any _ zs _ (by rw [HN.out.1]; exact H.out.1.below XS.out) (by have := HN.out.1; omega)).mono ?_
  rintro e w6 ⟨x0, rfl, o6, b⟩
  have X0i := hide o6
  have LX0 := hide (show ∀ r, x0.ownBlock = some r → r < w6.heap.size from fun r hr => (o6.lt r hr).2)
  have XBz1 := hide (show Below w0.heap.size w0 w6 from XS.out.trans (b.mono XS.out.size))
  have SBz1 := hide (show Below wS.heap.size wS w6 from SB0.out.trans (b.mono SB0.out.size))
  clear SB0
  clear b o6
  have L6 := hide (show wS.heap.size ≤ w6.heap.size from SBz1.out.size)
  go_wp2_with (go_at_call 18; fail)
  refine (toIntS_any _ ws _ (by rw [HN.out.2]; exact H.out.2.1.below XBz1.out) (by have := HN.out.2; omega)).mono ?_
  rintro e w7 ⟨x2, rfl, o7, b⟩
  have X2i := hide o7
  have LX2 := hide (show ∀ r, x2.ownBlock = some r → r < w7.heap.size from fun r hr => (o7.lt r hr).2)
  have XBz2 := hide (show Below w0.heap.size w0 w7 from XBz1.out.trans (b.mono XBz1.out.size))
  have SBz2 := hide (show Below wS.heap.size wS w7 from SBz1.out.trans (b.mono SBz1.out.size))
  have X0z2 := hide (own_belowT X0i.out b)
  clear XBz1 SBz1 X0i
  have L7 := hide b.size
  clear b o7
  go_wp2_with (first | (refine wpList_load_row rfl 46 _ rfl w.heap.size rfl 46 RT (0, 0) _ (K0.out.below XBz2.out K0.out.lt) Tryz.underlying46 rfl HInL.out ?_) | (go_at_call 17; fail))
  refine (HTo.out _).mono ?_
  rintro e w8 ⟨rfl, b⟩
  have XBz3 := hide (show Below w0.heap.size w0 w8 from XBz2.out.trans (b.mono XBz2.out.size))
  have SBz3 := hide (show Below wS.heap.size wS w8 from SBz2.out.trans (b.mono SBz2.out.size))
  have X0z3 := hide (own_belowT X0z2.out b)
  have X2z3 := hide (own_belowT X2i.out b)
  clear XBz2 SBz2 X0z2 X2i
  have L8 := hide b.size
  have SBs8 := hide (show wS.heap.size ≤ w8.heap.size from by have := L6.out; have := L7.out; have := b.size; omega)
  clear b
  go_wp2_with (go_at_call 8; fail)
  refine (HI.out x0 x2 w8 (Rd.own X0z3.out) (Rd.own X2z3.out) (H.out.2.2.below XBz3.out)).mono ?_
  rintro e w9 ⟨gw, gp, gs, rfl, o9, p9, b⟩
  obtain ⟨gxa, gxc, rfl⟩ := own_shape o9
  obtain ⟨gya, gyc, hgp⟩ := own_shape p9.row
  subst hgp
  obtain ⟨MG, hMG⟩ : ∃ M, M = moC RL (.slice gxa WW.length gxc) U (.slice gya (PP.map neP).length gyc) := ⟨_, rfl⟩
  rw [← hMG]
  have HMG := hide hMG
  have GWi := hide o9
  have GPi := hide p9
  have XBz4 := hide (show Below w0.heap.size w0 w9 from XBz3.out.trans (b.mono XBz3.out.size))
  have SBz4 := hide (show Below wS.heap.size wS w9 from SBz3.out.trans (b.mono SBz3.out.size))
  have X0z4 := hide (own_belowT X0z3.out b)
  have X2z4 := hide (own_belowT X2z3.out b)
  clear XBz3 SBz3 X0z3 X2z3
  have LGa := hide b.size
  clear b o9 p9 hMG
  go_upto_region 9 with (first
    | (refine wpList_store_row rfl 34 _ _ rfl w9.heap.size MG rfl rfl 34 #[.int .i64 0, .int .i64 0, .int .i64 0, .int .i64 0, .int .i64 0, .int .i64 0, .int .i64 0, .int .i64 0, .int .i64 0, .int .i64 0, .int .i64 0, .int .i64 0, .int .i64 0, .int .i64 0, .int .i64 0, .slice none 0 0, .int .i64 0, .slice none 0 0] (Blk.new w9 _ _) (by rw [HMG.out]; exact HInM.out _ _) (by rw [HMG.out, moC_size HL.out.1]; rfl) (by rw [HMG.out]; exact HOne.out _ _ _ _ _ _) ?_)
    | fail)
  obtain ⟨w10, hw10⟩ : ∃ w10, w10 = (w9.alloc (.cells #[.int .i64 0, .int .i64 0, .int .i64 0, .int .i64 0, .int .i64 0, .int .i64 0, .int .i64 0, .int .i64 0, .int .i64 0, .int .i64 0, .int .i64 0, .int .i64 0, .int .i64 0, .int .i64 0, .int .i64 0, .slice none 0 0, .int .i64 0, .slice none 0 0] 34)).setRow w9.heap.size MG := ⟨_, rfl⟩
  rw [← hw10]
  have b : Below w9.heap.size w9 w10 := by rw [hw10]; exact below_setRow ((Below.refl _ _).alloc (Nat.le_refl _) _) (Nat.le_refl _) _
  obtain ⟨bG, hbG⟩ : ∃ bG, bG = w9.heap.size := ⟨_, rfl⟩
  have KGi := hide (show Blk w10 bG MG 34 from by rw [hw10, hbG]; exact (Blk.new w9 _ _).row _)
  rw [← hbG]
  have XBz5 := hide (show Below w0.heap.size w0 w10 from XBz4.out.trans (b.mono XBz4.out.size))
  have SBz5 := hide (show Below wS.heap.size wS w10 from SBz4.out.trans (b.mono SBz4.out.size))
  have X0z5 := hide (own_belowT X0z4.out b)
  have X2z5 := hide (own_belowT X2z4.out b)
  have GWz5 := hide (own_belowT GWi.out b)
  have GPz5 := hide (GPi.out.below b)
  clear XBz4 SBz4 X0z4 X2z4 GWi GPi
  have HbG := hide hbG
  clear b hw10 hbG
  have KSc := hide (KS.out.below SBz5.out KS.out.lt)
  go_wp2_with (first
    | (refine wpList_load_row rfl 34 _ rfl bG rfl 34 MG (0, 0) _ KGi.out Tryz.underlying34 rfl (by rw [HMG.out]; exact HInM.out _ _) ?_)
    | (refine wpList_load_row rfl 34 _ rfl bS rfl 34 MS (0, 0) _ KSc.out Tryz.underlying34 rfl (by rw [HMS.out]; exact HInM.out _ _) ?_)
    | (go_at_call 19; fail))
  rw [HMG.out, HMS.out]
  refine (eqMapOut_same RL HL.out.1 U _ _ _ _ WW PP _ _ w10 (Rd.own GWz5.out) (RS.out.1.below SBz5.out) GPz5.out.rd (RS.out.2.below SBz5.out)).mono ?_
  rintro e w11 ⟨rfl, b⟩
  clear KSc
  have XBz6 := hide (show Below w0.heap.size w0 w11 from XBz5.out.trans (b.mono XBz5.out.size))
  have SBz6 := hide (show Below wS.heap.size wS w11 from SBz5.out.trans (b.mono SBz5.out.size))
  have X0z6 := hide (own_belowT X0z5.out b)
  have X2z6 := hide (own_belowT X2z5.out b)
  have GWz6 := hide (own_belowT GWz5.out b)
  have GPz6 := hide (GPz5.out.below b)
  have KGz6 := hide (KGi.out.below b KGi.out.lt)
  clear XBz5 SBz5 X0z5 X2z5 GWz5 GPz5 KGi
  clear b
  go_wp2_with (go_at_call 16; fail)
  refine (toByteS_any _ zs _ (by rw [HN.out.1]; exact H.out.1.below XBz6.out) (by have := HN.out.1; omega)).mono ?_
  rintro e w12 ⟨t0, rfl, o12, b⟩
  have T0 := hide o12
  have XBz7 := hide (show Below w0.heap.size w0 w12 from XBz6.out.trans (b.mono XBz6.out.size))
  have SBz7 := hide (show Below wS.heap.size wS w12 from SBz6.out.trans (b.mono SBz6.out.size))
  have X0z7 := hide (own_belowT X0z6.out b)
  have X2z7 := hide (own_belowT X2z6.out b)
  have GWz7 := hide (own_belowT GWz6.out b)
  have GPz7 := hide (GPz6.out.below b)
  have KGz7 := hide (KGz6.out.below b KGz6.out.lt)
  clear XBz6 SBz6 X0z6 X2z6 GWz6 GPz6 KGz6
  clear b o12
  go_wp2_with (go_at_call 20; fail)
  refine (eqByteS_same x0 t0 zs _ (Rd.own X0z7.out) (Rd.own T0.out)).mono ?_
  rintro e w13 ⟨rfl, b⟩
  have XBz8 := hide (show Below w0.heap.size w0 w13 from XBz7.out.trans (b.mono XBz7.out.size))
  have SBz8 := hide (show Below wS.heap.size wS w13 from SBz7.out.trans (b.mono SBz7.out.size))
  have X0z8 := hide (own_belowT X0z7.out b)
  have X2z8 := hide (own_belowT X2z7.out b)
  have GWz8 := hide (own_belowT GWz7.out b)
  have GPz8 := hide (GPz7.out.below b)
  have KGz8 := hide (KGz7.out.below b KGz7.out.lt)
  clear XBz7 SBz7 X0z7 X2z7 GWz7 GPz7 KGz7
  clear b T0
  go_wp2_with (go_at_call 18; fail)
  refine (toIntS_any _ ws _ (by rw [HN.out.2]; exact H.out.2.1.below XBz8.out) (by have := HN.out.2; omega)).mono ?_
  rintro e w14 ⟨t2, rfl, o14, b⟩
  have T2 := hide o14
  have XBz9 := hide (show Below w0.heap.size w0 w14 from XBz8.out.trans (b.mono XBz8.out.size))
  have SBz9 := hide (show Below wS.heap.size wS w14 from SBz8.out.trans (b.mono SBz8.out.size))
  have X0z9 := hide (own_belowT X0z8.out b)
  have X2z9 := hide (own_belowT X2z8.out b)
  have GWz9 := hide (own_belowT GWz8.out b)
  have GPz9 := hide (GPz8.out.below b)
  have KGz9 := hide (KGz8.out.below b KGz8.out.lt)
  clear XBz8 SBz8 X0z8 X2z8 GWz8 GPz8 KGz8
  clear b o14
  go_wp2_with (go_at_call 21; fail)
  refine (eqIntS_same x2 t2 ws _ (Rd.own X2z9.out) (Rd.own T2.out)).mono ?_
  rintro e w15 ⟨rfl, b⟩
  have XBz10 := hide (show Below w0.heap.size w0 w15 from XBz9.out.trans (b.mono XBz9.out.size))
  have SBz10 := hide (show Below wS.heap.size wS w15 from SBz9.out.trans (b.mono SBz9.out.size))
  have X0z10 := hide (own_belowT X0z9.out b)
  have X2z10 := hide (own_belowT X2z9.out b)
  have GWz10 := hide (own_belowT GWz9.out b)
  have GPz10 := hide (GPz9.out.below b)
  have KGz10 := hide (KGz9.out.below b KGz9.out.lt)
  clear XBz9 SBz9 X0z9 X2z9 GWz9 GPz9 KGz9
  clear b T2
  go_wp2_with (go_at_call 22; fail)
  refine (markByteS_any x0 wS.heap.size zs.length 1 _ _ X0z10.out (by have := HN.out.1; omega) (by omega)).mono ?_
  rintro e w16 ⟨he, o16, g⟩
  rw [← HN.out.1, ← HKc.out.1] at he
  subst he
  have XBz11 := hide (show Below w0.heap.size w0 w16 from XBz10.out.grown g XBz10.out.size (fun r hr => Nat.le_trans XS.out.size (Nat.le_trans (Nat.le_refl _) (X0z10.out.lt r hr).1)))
  have SBz11 := hide (show Below wS.heap.size wS w16 from SBz10.out.grown g SBz10.out.size (fun r hr => Nat.le_trans (Nat.le_refl _) (X0z10.out.lt r hr).1))
  have X2z11 := hide (X2z10.out.kept g (own_apart X2z10.out X0z10.out (by decide)))
  have GWz11 := hide (own_keptB GWz10.out (fun r h1 h2 => g.block r h2 (fun e => by have h3 := (LX0.out r e.symm); have := L7.out; have := L8.out; omega)))
  have GPz11 := hide (GPz10.out.keptB (fun r h1 h2 => g.block r h2 (fun e => by have h3 := (LX0.out r e.symm); have := L7.out; have := L8.out; omega)))
  have KGz11 := hide (blk_own X0z10.out KGz10.out (by decide) g)
  clear XBz10 SBz10 GWz10 GPz10 KGz10 X0z10 X2z10
  clear o16 g
  go_wp2_with (go_at_call 23; fail)
  refine (markIntS_any x2 w6.heap.size ws.length Kc _ _ X2z11.out (by have := HN.out.2; omega) (by omega)).mono ?_
  rintro e w17 ⟨he, o17, g⟩
  rw [← HN.out.2, ← HKc.out.2] at he
  subst he
  have XBz12 := hide (show Below w0.heap.size w0 w17 from XBz11.out.grown g XBz11.out.size (fun r hr => Nat.le_trans XS.out.size (Nat.le_trans L6.out (X2z11.out.lt r hr).1)))
  have SBz12 := hide (show Below wS.heap.size wS w17 from SBz11.out.grown g SBz11.out.size (fun r hr => Nat.le_trans L6.out (X2z11.out.lt r hr).1))
  have GWz12 := hide (own_keptB GWz11.out (fun r h1 h2 => g.block r h2 (fun e => by have h3 := (LX2.out r e.symm); have := L7.out; have := L8.out; omega)))
  have GPz12 := hide (GPz11.out.keptB (fun r h1 h2 => g.block r h2 (fun e => by have h3 := (LX2.out r e.symm); have := L7.out; have := L8.out; omega)))
  have KGz12 := hide (blk_own X2z11.out KGz11.out (by decide) g)
  clear XBz11 SBz11 GWz11 GPz11 KGz11 X2z11
  clear o17 g
  have KSc := hide (KS.out.below SBz12.out KS.out.lt)
  go_wp2_with (first
    | (refine wpList_load_rowG ?hw 34 _ rfl bG rfl 34 MG (0, 0) _ KGz12.out Tryz.underlying34 rfl (by rw [HMG.out]; exact HInM.out _ _) ?_; case hw => rfl)
    | (refine wpList_load_rowG ?hw 34 _ rfl bS rfl 34 MS (0, 0) _ KSc.out Tryz.underlying34 rfl (by rw [HMS.out]; exact HInM.out _ _) ?_; case hw => rfl)
    | (go_at_call 19; fail))
  rw [HMG.out, HMS.out]
  refine (eqMapOut_same RL HL.out.1 U _ _ _ _ WW PP _ _ w17 (Rd.own GWz12.out) (RS.out.1.below SBz12.out) GPz12.out.rd (RS.out.2.below SBz12.out)).mono ?_
  rintro e w18 ⟨rfl, b⟩
  clear KSc
  have XBz13 := hide (show Below w0.heap.size w0 w18 from XBz12.out.trans (b.mono XBz12.out.size))
  have SBz13 := hide (show Below wS.heap.size wS w18 from SBz12.out.trans (b.mono SBz12.out.size))
  have GWz13 := hide (own_belowT GWz12.out b)
  have GPz13 := hide (GPz12.out.below b)
  have KGz13 := hide (KGz12.out.below b KGz12.out.lt)
  clear XBz12 SBz12 GWz12 GPz12 KGz12
  clear b
  go_wp2_with (first
    | (refine wpList_load_row rfl 34 _ rfl bG rfl 34 MG (0, 0) _ KGz13.out Tryz.underlying34 rfl (by rw [HMG.out]; exact HInM.out _ _) ?_)
    | (go_at_call 24; fail))
  rw [HMG.out]
  refine (markMapOut_any RL HL.out.1 U (.slice gxa WW.length gxc) (.slice gya (PP.map neP).length gyc) w8.heap.size WN 1 _ PP gs w18 (by rw [HWN.out]; exact GWz13.out) GPz13.out (by omega) (by omega) (by rw [← HEN.out]; exact hENb) (by have h1 := LGa.out; have h2 := HbG.out; have h3 := KGz13.out.lt; omega)).mono ?_
  rintro e w19 ⟨he, o19, p19, b19, k19⟩
  rw [← HEN.out] at he
  subst he
  have XBm := hide (show Below w0.heap.size w0 w19 from XBz13.out.trans (b19.mono (Nat.le_trans XS.out.size (Nat.le_trans SBs8.out (Nat.le_refl _)))))
  have SBm := hide (show Below wS.heap.size wS w19 from SBz13.out.trans (b19.mono SBs8.out))
  have GWm := hide (show Rd .i64 w19 (.slice gxa WW.length gxc) (mk64 1 WN) from Rd.own o19)
  have GPm := hide p19.rd
  have KGm := hide (k19 _ _ KGz13.out)
  clear o19 p19 b19 k19 XBz13 SBz13 GWz13 GPz13 KGz13
  go_wp2_with (first
    | (refine wpList_load_row rfl 34 _ rfl bG rfl 34 MG (0, 0) _ KGm.out Tryz.underlying34 rfl (by rw [HMG.out]; exact HInM.out _ _) ?_)
    | (go_at_call 25; fail))
  rw [HMG.out]
  refine (heldMapOut_any RL HL.out.1 U (.slice gxa WW.length gxc) (.slice gya (PP.map neP).length gyc) WN 1 PP gs w19 GWm.out GPm.out (by omega) (by omega) (by rw [← HEN.out]; exact hENb)).mono ?_
  rintro e w20 ⟨he, b⟩
  rw [← HEN.out] at he
  subst he
  have GWn := hide (GWm.out.below b)
  have GPn := hide (GPm.out.below b)
  have KGn := hide (KGm.out.below b KGm.out.lt)
  clear GWm GPm KGm
  have XBz14 := hide (show Below w0.heap.size w0 w20 from XBm.out.trans (b.mono XBm.out.size))
  have SBz14 := hide (show Below wS.heap.size wS w20 from SBm.out.trans (b.mono SBm.out.size))
  clear XBm SBm
  clear b
  go_upto_region 28 with fail
  go_cut [18, 19] from 99 to 109 (fun v9 v10 wx => v10 = .int .i64 c ∧ ∃ bx, v9 = .pointer (some ⟨bx, 0, none⟩) ∧ ∃ M xa xc ya yc us, M = moC RL (.slice xa WW.length xc) U (.slice ya (PP.map neP).length yc) ∧ Blk wx bx M 34 ∧ Rd .i64 wx (.slice xa WW.length xc) WW ∧ RdN wx 1 (.slice ya (PP.map neP).length yc) (PP.map neP) us ∧ Below w20.heap.size w20 wx)
  case first Jc Kc hJc hKc =>
    refine wp_region_noPanic ?_
    refine wp_region_held_drew (S := fun w' => Blk w' w.heap.size RT 46) (by kernel_rfl) (K0.out.below XBz14.out.drew K0.out.lt) (fun hH => ?_)
    refine wpAnyH_take (i := 0) (oi := _) (v := .slice ia zn ic) rfl (by kernel_rfl) (by kernel_rfl) (by kernel_rfl) (fun _ _ _ h => h) (Or.inl ⟨by rfl, fun w' hw' => by go_simp⟩) hH ?_
    try simp only [Act.put, getElem_toArray, getElem_cons_zero, getElem_cons_succ, setIfInBounds_toArray, set_cons_zero, set_cons_succ]
    refine wpAnyH_take (i := 2) (oi := _) (v := .agg RT) rfl (by kernel_rfl) (by kernel_rfl) (by kernel_rfl) (fun _ _ _ h => h) (yieldsIf_load_mid (by rfl) 46 _ rfl w.heap.size 0 rfl RT.toList _ (fun w' h => blk_range8 h) Tryz.underlying46 rfl HInLl.out) hH ?_
    try simp only [Act.put, getElem_toArray, getElem_cons_zero, getElem_cons_succ, setIfInBounds_toArray, set_cons_zero, set_cons_succ]
    refine wpAnyH_take (i := 4) (oi := _) (v := .slice wa wn wc) rfl (by kernel_rfl) (by kernel_rfl) (by kernel_rfl) (fun _ _ _ h => h) (Or.inl ⟨by rfl, fun w' hw' => by go_simp⟩) hH ?_
    try simp only [Act.put, getElem_toArray, getElem_cons_zero, getElem_cons_succ, setIfInBounds_toArray, set_cons_zero, set_cons_succ]
    refine wpAnyH_take (i := 6) (oi := _) (v := .int .i64 cu) rfl (by kernel_rfl) (by kernel_rfl) (by kernel_rfl) (fun _ _ _ h => h) (Or.inl ⟨by rfl, fun w' hw' => by go_simp⟩) hH ?_
    try simp only [Act.put, getElem_toArray, getElem_cons_zero, getElem_cons_succ, setIfInBounds_toArray, set_cons_zero, set_cons_succ]
    have YDHI := hide (show Below w20.heap.size w20 w20.drew from (Below.refl _ _).drew)
    have XDHI := hide (show Below w0.heap.size w0 w20.drew from XBz14.out.drew)
    refine wpAnyH_ready (rs := [1, 11]) (by kernel_rfl) (by simp) ?_
    refine AllReadyH.cons (o := _) rfl (fun K hK => ?_) (AllReadyH.cons (o := _) rfl (fun K hK => ?_) AllReadyH.nil)
    · go_simp
      refine (toByteS_any _ zs _ (by rw [HN.out.1]; exact H.out.1.below XDHI.out) (by have := HN.out.1; omega)).mono ?_
      rintro e wk25 ⟨va25, rfl, o1, b1⟩
      have O25 := hide o1
      have Y25 := hide (show Below w20.heap.size w20 wk25 from YDHI.out.trans (b1.mono YDHI.out.size))
      have X25 := hide (show Below w0.heap.size w0 wk25 from XBz14.out.trans (Y25.out.mono XBz14.out.size))
      clear o1
      refine hK.out _ _ (K0.out.below X25.out K0.out.lt) (fun hH => ?_)
      clear hK K b1
      try simp only [Act.put, getElem_toArray, getElem_cons_zero, getElem_cons_succ, setIfInBounds_toArray, set_cons_zero, set_cons_succ]
      refine wpAnyH_ready (rs := [3, 11]) (by kernel_rfl) (by simp) ?_
      refine AllReadyH.cons (o := _) rfl (fun K hK => ?_) (AllReadyH.cons (o := _) rfl (fun K hK => ?_) AllReadyH.nil)
      · go_simp
        refine (HTo.out _).mono ?_
        rintro e wk26 ⟨rfl, b1⟩
        have Y26 := hide (show Below w20.heap.size w20 wk26 from Y25.out.trans (b1.mono Y25.out.size))
        have X26 := hide (show Below w0.heap.size w0 wk26 from XBz14.out.trans (Y26.out.mono XBz14.out.size))
        have Qr126 := hide (own_belowT O25.out b1)
        refine hK.out _ _ (K0.out.below X26.out K0.out.lt) (fun hH => ?_)
        clear hK K b1
        try simp only [Act.put, getElem_toArray, getElem_cons_zero, getElem_cons_succ, setIfInBounds_toArray, set_cons_zero, set_cons_succ]
        refine wpAnyH_ready (rs := [5, 11]) (by kernel_rfl) (by simp) ?_
        refine AllReadyH.cons (o := _) rfl (fun K hK => ?_) (AllReadyH.cons (o := _) rfl (fun K hK => ?_) AllReadyH.nil)
        · go_simp
          refine (toIntS_any _ ws _ (by rw [HN.out.2]; exact H.out.2.1.below X26.out) (by have := HN.out.2; omega)).mono ?_
          rintro e wk27 ⟨vb27, rfl, o1, b1⟩
          have O27 := hide o1
          have Y27 := hide (show Below w20.heap.size w20 wk27 from Y26.out.trans (b1.mono Y26.out.size))
          have X27 := hide (show Below w0.heap.size w0 wk27 from XBz14.out.trans (Y27.out.mono XBz14.out.size))
          have Qr127 := hide (own_belowT Qr126.out b1)
          clear o1
          refine hK.out _ _ (K0.out.below X27.out K0.out.lt) (fun hH => ?_)
          clear hK K b1
          try simp only [Act.put, getElem_toArray, getElem_cons_zero, getElem_cons_succ, setIfInBounds_toArray, set_cons_zero, set_cons_succ]
          refine wpAnyH_ready (rs := [7, 11]) (by kernel_rfl) (by simp) ?_
          refine AllReadyH.cons (o := _) rfl (fun K hK => ?_) (AllReadyH.cons (o := _) rfl (fun K hK => ?_) AllReadyH.nil)
          · go_simp
            refine (HI.out va25 vb27 wk27 (Rd.own Qr127.out) (Rd.own O27.out) (H.out.2.2.below X27.out)).mono ?_
            rintro e wk28 ⟨uw, up, us28, rfl, o4, p4, b1⟩
            obtain ⟨xa28, xc28, rfl⟩ := own_shape o4
            obtain ⟨ya28, yc28, hup⟩ := own_shape p4.row
            subst hup
            have Ow28 := hide o4
            have Op28 := hide p4
            obtain ⟨M28, hM⟩ : ∃ M, M = moC RL (.slice xa28 WW.length xc28) U (.slice ya28 (PP.map neP).length yc28) := ⟨_, rfl⟩
            rw [← hM]
            have HM28 := hide hM
            have Y28 := hide (show Below w20.heap.size w20 wk28 from Y27.out.trans (b1.mono Y27.out.size))
            have X28 := hide (show Below w0.heap.size w0 wk28 from XBz14.out.trans (Y28.out.mono XBz14.out.size))
            have Qr128 := hide (own_belowT Qr127.out b1)
            have Qr228 := hide (own_belowT O27.out b1)
            clear o4 p4 hM
            refine hK.out _ _ (K0.out.below X28.out K0.out.lt) (fun hH => ?_)
            clear hK K b1
            try simp only [Act.put, getElem_toArray, getElem_cons_zero, getElem_cons_succ, setIfInBounds_toArray, set_cons_zero, set_cons_succ]
            refine wpAnyH_take (i := 8) (oi := _) (v := .tuple #[.agg M28, .int .i64 c]) rfl (by kernel_rfl) (by kernel_rfl) (by kernel_rfl) (fun _ _ _ h => h) (Or.inl ⟨by rfl, fun w' hw' => by go_simp⟩) hH ?_
            try simp only [Act.put, getElem_toArray, getElem_cons_zero, getElem_cons_succ, setIfInBounds_toArray, set_cons_zero, set_cons_succ]
            refine wpAnyH_take (i := 9) (oi := _) (v := .agg M28) rfl (by kernel_rfl) (by kernel_rfl) (by kernel_rfl) (fun _ _ _ h => h) (Or.inl ⟨by rfl, fun w' hw' => by go_simp⟩) hH ?_
            try simp only [Act.put, getElem_toArray, getElem_cons_zero, getElem_cons_succ, setIfInBounds_toArray, set_cons_zero, set_cons_succ]
            refine wpAnyH_take (i := 10) (oi := _) (v := .int .i64 c) rfl (by kernel_rfl) (by kernel_rfl) (by kernel_rfl) (fun _ _ _ h => h) (Or.inl ⟨by rfl, fun w' hw' => by go_simp⟩) hH ?_
            try simp only [Act.put, getElem_toArray, getElem_cons_zero, getElem_cons_succ, setIfInBounds_toArray, set_cons_zero, set_cons_succ]
            refine wpAnyH_ready (rs := [11]) (by kernel_rfl) (by simp) ?_
            refine AllReadyH.cons (o := _) rfl (fun K hK => ?_) AllReadyH.nil
            go_simp
            obtain ⟨wk29, hwk⟩ : ∃ wk, wk = World.alloc wk28 (.cells #[.int .i64 0, .int .i64 0, .int .i64 0, .int .i64 0, .int .i64 0, .int .i64 0, .int .i64 0, .int .i64 0, .int .i64 0, .int .i64 0, .int .i64 0, .int .i64 0, .int .i64 0, .int .i64 0, .int .i64 0, .slice none 0 0, .int .i64 0, .slice none 0 0] 34) := ⟨_, rfl⟩
            have b1 : Below wk28.heap.size wk28 wk29 := by rw [hwk]; exact ((Below.refl _ _).alloc (Nat.le_refl _) _)
            have Bx29 := hide (show Blk wk29 wk28.heap.size zMO 34 from by rw [hwk]; exact Blk.new wk28 _ _)
            rw [← hwk]
            have Y29 := hide (show Below w20.heap.size w20 wk29 from Y28.out.trans (b1.mono Y28.out.size))
            have X29 := hide (show Below w0.heap.size w0 wk29 from XBz14.out.trans (Y29.out.mono XBz14.out.size))
            have Ow29 := hide (own_belowT Ow28.out b1)
            have Op29 := hide (Op28.out.below b1)
            refine hK.out _ _ (K0.out.below X29.out K0.out.lt) (fun hH => ?_)
            clear hK K b1 hwk
            try simp only [Act.put, getElem_toArray, getElem_cons_zero, getElem_cons_succ, setIfInBounds_toArray, set_cons_zero, set_cons_succ]
            refine wpAnyH_ready (rs := [12]) (by kernel_rfl) (by simp) ?_
            refine AllReadyH.cons (o := _) rfl (fun K hK => ?_) AllReadyH.nil
            rw [if_pos (by rfl)]
            refine wp_store_row 34 _ _ rfl wk28.heap.size M28 rfl rfl 34 zMO Bx29.out (by rw [HM28.out]; exact HInM.out _ _) (by rw [HM28.out, moC_size HL.out.1]; rfl) (by rw [HM28.out]; exact HOne.out _ _ _ _ _ _) ?_
            obtain ⟨we30, hwe⟩ : ∃ we, we = World.setRow wk29 wk28.heap.size M28 := ⟨_, rfl⟩
            rw [← hwe]
            have KM30 := hide (show Blk we30 wk28.heap.size M28 34 from by rw [hwe]; exact Bx29.out.row _)
            have Ye30 := hide (show Below w20.heap.size w20 we30 from by rw [hwe]; exact below_setRow Y29.out Y28.out.size _)
            have Rw30 := hide (show Rd .i64 we30 (.slice xa28 WW.length xc28) WW from by rw [hwe]; exact Rd.own (own_setRowT Ow29.out Bx29.out (by decide)))
            have Rp30 := hide (show RdN we30 1 (.slice ya28 (PP.map neP).length yc28) (PP.map neP) us28 from by rw [hwe]; exact (Op29.out.offMO Bx29.out _).rd)
            refine hK.out _ _ (K0.out.below (XBz14.out.trans (Ye30.out.mono XBz14.out.size)) K0.out.lt) (fun hH => ?_)
            clear hK K hwe
            try simp only [Act.put, getElem_toArray, getElem_cons_zero, getElem_cons_succ, setIfInBounds_toArray, set_cons_zero, set_cons_succ]
            refine wpAnyH_take (i := 13) (oi := _) (v := .int .i64 c) rfl (by kernel_rfl) (by kernel_rfl) (by kernel_rfl) (fun _ _ _ h => h) (Or.inl ⟨by rfl, fun w' hw' => by go_simp⟩) hH ?_
            try simp only [Act.put, getElem_toArray, getElem_cons_zero, getElem_cons_succ, setIfInBounds_toArray, set_cons_zero, set_cons_succ]
            refine wpAnyH_done (by kernel_rfl) (NoPanic.normal ?_) _
            refine hKc _ _ (Met.intro (hJc _ _ ?_))
            (repeat apply Exists.intro)
            exact ⟨⟨rfl, wk28.heap.size, rfl, M28, xa28, xc28, ya28, yc28, us28, HM28.out, KM30.out, Rw30.out, Rp30.out, Ye30.out⟩, rfl⟩
          · go_simp
            obtain ⟨wk31, hwk⟩ : ∃ wk, wk = World.alloc wk27 (.cells #[.int .i64 0, .int .i64 0, .int .i64 0, .int .i64 0, .int .i64 0, .int .i64 0, .int .i64 0, .int .i64 0, .int .i64 0, .int .i64 0, .int .i64 0, .int .i64 0, .int .i64 0, .int .i64 0, .int .i64 0, .slice none 0 0, .int .i64 0, .slice none 0 0] 34) := ⟨_, rfl⟩
            have b1 : Below wk27.heap.size wk27 wk31 := by rw [hwk]; exact ((Below.refl _ _).alloc (Nat.le_refl _) _)
            have Bx31 := hide (show Blk wk31 wk27.heap.size zMO 34 from by rw [hwk]; exact Blk.new wk27 _ _)
            rw [← hwk]
            have Y31 := hide (show Below w20.heap.size w20 wk31 from Y27.out.trans (b1.mono Y27.out.size))
            have X31 := hide (show Below w0.heap.size w0 wk31 from XBz14.out.trans (Y31.out.mono XBz14.out.size))
            have Qr131 := hide (own_belowT Qr127.out b1)
            have Qr231 := hide (own_belowT O27.out b1)
            refine hK.out _ _ (K0.out.below X31.out K0.out.lt) (fun hH => ?_)
            clear hK K b1 hwk
            try simp only [Act.put, getElem_toArray, getElem_cons_zero, getElem_cons_succ, setIfInBounds_toArray, set_cons_zero, set_cons_succ]
            refine wpAnyH_ready (rs := [7]) (by kernel_rfl) (by simp) ?_
            refine AllReadyH.cons (o := _) rfl (fun K hK => ?_) AllReadyH.nil
            go_simp
            refine (HI.out va25 vb27 wk31 (Rd.own Qr131.out) (Rd.own Qr231.out) (H.out.2.2.below X31.out)).mono ?_
            rintro e wk32 ⟨uw, up, us32, rfl, o4, p4, b1⟩
            obtain ⟨xa32, xc32, rfl⟩ := own_shape o4
            obtain ⟨ya32, yc32, hup⟩ := own_shape p4.row
            subst hup
            have Ow32 := hide o4
            have Op32 := hide p4
            obtain ⟨M32, hM⟩ : ∃ M, M = moC RL (.slice xa32 WW.length xc32) U (.slice ya32 (PP.map neP).length yc32) := ⟨_, rfl⟩
            rw [← hM]
            have HM32 := hide hM
            have Y32 := hide (show Below w20.heap.size w20 wk32 from Y31.out.trans (b1.mono Y31.out.size))
            have X32 := hide (show Below w0.heap.size w0 wk32 from XBz14.out.trans (Y32.out.mono XBz14.out.size))
            have Qr132 := hide (own_belowT Qr131.out b1)
            have Qr232 := hide (own_belowT Qr231.out b1)
            have Bx32 := hide (Bx31.out.below b1 Bx31.out.lt)
            clear o4 p4 hM
            refine hK.out _ _ (K0.out.below X32.out K0.out.lt) (fun hH => ?_)
            clear hK K b1
            try simp only [Act.put, getElem_toArray, getElem_cons_zero, getElem_cons_succ, setIfInBounds_toArray, set_cons_zero, set_cons_succ]
            refine wpAnyH_take (i := 8) (oi := _) (v := .tuple #[.agg M32, .int .i64 c]) rfl (by kernel_rfl) (by kernel_rfl) (by kernel_rfl) (fun _ _ _ h => h) (Or.inl ⟨by rfl, fun w' hw' => by go_simp⟩) hH ?_
            try simp only [Act.put, getElem_toArray, getElem_cons_zero, getElem_cons_succ, setIfInBounds_toArray, set_cons_zero, set_cons_succ]
            refine wpAnyH_take (i := 9) (oi := _) (v := .agg M32) rfl (by kernel_rfl) (by kernel_rfl) (by kernel_rfl) (fun _ _ _ h => h) (Or.inl ⟨by rfl, fun w' hw' => by go_simp⟩) hH ?_
            try simp only [Act.put, getElem_toArray, getElem_cons_zero, getElem_cons_succ, setIfInBounds_toArray, set_cons_zero, set_cons_succ]
            refine wpAnyH_take (i := 10) (oi := _) (v := .int .i64 c) rfl (by kernel_rfl) (by kernel_rfl) (by kernel_rfl) (fun _ _ _ h => h) (Or.inl ⟨by rfl, fun w' hw' => by go_simp⟩) hH ?_
            try simp only [Act.put, getElem_toArray, getElem_cons_zero, getElem_cons_succ, setIfInBounds_toArray, set_cons_zero, set_cons_succ]
            refine wpAnyH_ready (rs := [12]) (by kernel_rfl) (by simp) ?_
            refine AllReadyH.cons (o := _) rfl (fun K hK => ?_) AllReadyH.nil
            rw [if_pos (by rfl)]
            refine wp_store_row 34 _ _ rfl wk27.heap.size M32 rfl rfl 34 zMO Bx32.out (by rw [HM32.out]; exact HInM.out _ _) (by rw [HM32.out, moC_size HL.out.1]; rfl) (by rw [HM32.out]; exact HOne.out _ _ _ _ _ _) ?_
            obtain ⟨we33, hwe⟩ : ∃ we, we = World.setRow wk32 wk27.heap.size M32 := ⟨_, rfl⟩
            rw [← hwe]
            have KM33 := hide (show Blk we33 wk27.heap.size M32 34 from by rw [hwe]; exact Bx32.out.row _)
            have Ye33 := hide (show Below w20.heap.size w20 we33 from by rw [hwe]; exact below_setRow Y32.out Y27.out.size _)
            have Rw33 := hide (show Rd .i64 we33 (.slice xa32 WW.length xc32) WW from by rw [hwe]; exact Rd.own (own_setRowT Ow32.out Bx32.out (by decide)))
            have Rp33 := hide (show RdN we33 1 (.slice ya32 (PP.map neP).length yc32) (PP.map neP) us32 from by rw [hwe]; exact (Op32.out.offMO Bx32.out _).rd)
            refine hK.out _ _ (K0.out.below (XBz14.out.trans (Ye33.out.mono XBz14.out.size)) K0.out.lt) (fun hH => ?_)
            clear hK K hwe
            try simp only [Act.put, getElem_toArray, getElem_cons_zero, getElem_cons_succ, setIfInBounds_toArray, set_cons_zero, set_cons_succ]
            refine wpAnyH_take (i := 13) (oi := _) (v := .int .i64 c) rfl (by kernel_rfl) (by kernel_rfl) (by kernel_rfl) (fun _ _ _ h => h) (Or.inl ⟨by rfl, fun w' hw' => by go_simp⟩) hH ?_
            try simp only [Act.put, getElem_toArray, getElem_cons_zero, getElem_cons_succ, setIfInBounds_toArray, set_cons_zero, set_cons_succ]
            refine wpAnyH_done (by kernel_rfl) (NoPanic.normal ?_) _
            refine hKc _ _ (Met.intro (hJc _ _ ?_))
            (repeat apply Exists.intro)
            exact ⟨⟨rfl, wk27.heap.size, rfl, M32, xa32, xc32, ya32, yc32, us32, HM32.out, KM33.out, Rw33.out, Rp33.out, Ye33.out⟩, rfl⟩
        · go_simp
          obtain ⟨wk34, hwk⟩ : ∃ wk, wk = World.alloc wk26 (.cells #[.int .i64 0, .int .i64 0, .int .i64 0, .int .i64 0, .int .i64 0, .int .i64 0, .int .i64 0, .int .i64 0, .int .i64 0, .int .i64 0, .int .i64 0, .int .i64 0, .int .i64 0, .int .i64 0, .int .i64 0, .slice none 0 0, .int .i64 0, .slice none 0 0] 34) := ⟨_, rfl⟩
          have b1 : Below wk26.heap.size wk26 wk34 := by rw [hwk]; exact ((Below.refl _ _).alloc (Nat.le_refl _) _)
          have Bx34 := hide (show Blk wk34 wk26.heap.size zMO 34 from by rw [hwk]; exact Blk.new wk26 _ _)
          rw [← hwk]
          have Y34 := hide (show Below w20.heap.size w20 wk34 from Y26.out.trans (b1.mono Y26.out.size))
          have X34 := hide (show Below w0.heap.size w0 wk34 from XBz14.out.trans (Y34.out.mono XBz14.out.size))
          have Qr134 := hide (own_belowT Qr126.out b1)
          refine hK.out _ _ (K0.out.below X34.out K0.out.lt) (fun hH => ?_)
          clear hK K b1 hwk
          try simp only [Act.put, getElem_toArray, getElem_cons_zero, getElem_cons_succ, setIfInBounds_toArray, set_cons_zero, set_cons_succ]
          refine wpAnyH_ready (rs := [5]) (by kernel_rfl) (by simp) ?_
          refine AllReadyH.cons (o := _) rfl (fun K hK => ?_) AllReadyH.nil
          go_simp
          refine (toIntS_any _ ws _ (by rw [HN.out.2]; exact H.out.2.1.below X34.out) (by have := HN.out.2; omega)).mono ?_
          rintro e wk35 ⟨vb35, rfl, o1, b1⟩
          have O35 := hide o1
          have Y35 := hide (show Below w20.heap.size w20 wk35 from Y34.out.trans (b1.mono Y34.out.size))
          have X35 := hide (show Below w0.heap.size w0 wk35 from XBz14.out.trans (Y35.out.mono XBz14.out.size))
          have Qr135 := hide (own_belowT Qr134.out b1)
          have Bx35 := hide (Bx34.out.below b1 Bx34.out.lt)
          clear o1
          refine hK.out _ _ (K0.out.below X35.out K0.out.lt) (fun hH => ?_)
          clear hK K b1
          try simp only [Act.put, getElem_toArray, getElem_cons_zero, getElem_cons_succ, setIfInBounds_toArray, set_cons_zero, set_cons_succ]
          refine wpAnyH_ready (rs := [7]) (by kernel_rfl) (by simp) ?_
          refine AllReadyH.cons (o := _) rfl (fun K hK => ?_) AllReadyH.nil
          go_simp
          refine (HI.out va25 vb35 wk35 (Rd.own Qr135.out) (Rd.own O35.out) (H.out.2.2.below X35.out)).mono ?_
          rintro e wk36 ⟨uw, up, us36, rfl, o4, p4, b1⟩
          obtain ⟨xa36, xc36, rfl⟩ := own_shape o4
          obtain ⟨ya36, yc36, hup⟩ := own_shape p4.row
          subst hup
          have Ow36 := hide o4
          have Op36 := hide p4
          obtain ⟨M36, hM⟩ : ∃ M, M = moC RL (.slice xa36 WW.length xc36) U (.slice ya36 (PP.map neP).length yc36) := ⟨_, rfl⟩
          rw [← hM]
          have HM36 := hide hM
          have Y36 := hide (show Below w20.heap.size w20 wk36 from Y35.out.trans (b1.mono Y35.out.size))
          have X36 := hide (show Below w0.heap.size w0 wk36 from XBz14.out.trans (Y36.out.mono XBz14.out.size))
          have Qr136 := hide (own_belowT Qr135.out b1)
          have Qr236 := hide (own_belowT O35.out b1)
          have Bx36 := hide (Bx35.out.below b1 Bx35.out.lt)
          clear o4 p4 hM
          refine hK.out _ _ (K0.out.below X36.out K0.out.lt) (fun hH => ?_)
          clear hK K b1
          try simp only [Act.put, getElem_toArray, getElem_cons_zero, getElem_cons_succ, setIfInBounds_toArray, set_cons_zero, set_cons_succ]
          refine wpAnyH_take (i := 8) (oi := _) (v := .tuple #[.agg M36, .int .i64 c]) rfl (by kernel_rfl) (by kernel_rfl) (by kernel_rfl) (fun _ _ _ h => h) (Or.inl ⟨by rfl, fun w' hw' => by go_simp⟩) hH ?_
          try simp only [Act.put, getElem_toArray, getElem_cons_zero, getElem_cons_succ, setIfInBounds_toArray, set_cons_zero, set_cons_succ]
          refine wpAnyH_take (i := 9) (oi := _) (v := .agg M36) rfl (by kernel_rfl) (by kernel_rfl) (by kernel_rfl) (fun _ _ _ h => h) (Or.inl ⟨by rfl, fun w' hw' => by go_simp⟩) hH ?_
          try simp only [Act.put, getElem_toArray, getElem_cons_zero, getElem_cons_succ, setIfInBounds_toArray, set_cons_zero, set_cons_succ]
          refine wpAnyH_take (i := 10) (oi := _) (v := .int .i64 c) rfl (by kernel_rfl) (by kernel_rfl) (by kernel_rfl) (fun _ _ _ h => h) (Or.inl ⟨by rfl, fun w' hw' => by go_simp⟩) hH ?_
          try simp only [Act.put, getElem_toArray, getElem_cons_zero, getElem_cons_succ, setIfInBounds_toArray, set_cons_zero, set_cons_succ]
          refine wpAnyH_ready (rs := [12]) (by kernel_rfl) (by simp) ?_
          refine AllReadyH.cons (o := _) rfl (fun K hK => ?_) AllReadyH.nil
          rw [if_pos (by rfl)]
          refine wp_store_row 34 _ _ rfl wk26.heap.size M36 rfl rfl 34 zMO Bx36.out (by rw [HM36.out]; exact HInM.out _ _) (by rw [HM36.out, moC_size HL.out.1]; rfl) (by rw [HM36.out]; exact HOne.out _ _ _ _ _ _) ?_
          obtain ⟨we37, hwe⟩ : ∃ we, we = World.setRow wk36 wk26.heap.size M36 := ⟨_, rfl⟩
          rw [← hwe]
          have KM37 := hide (show Blk we37 wk26.heap.size M36 34 from by rw [hwe]; exact Bx36.out.row _)
          have Ye37 := hide (show Below w20.heap.size w20 we37 from by rw [hwe]; exact below_setRow Y36.out Y26.out.size _)
          have Rw37 := hide (show Rd .i64 we37 (.slice xa36 WW.length xc36) WW from by rw [hwe]; exact Rd.own (own_setRowT Ow36.out Bx36.out (by decide)))
          have Rp37 := hide (show RdN we37 1 (.slice ya36 (PP.map neP).length yc36) (PP.map neP) us36 from by rw [hwe]; exact (Op36.out.offMO Bx36.out _).rd)
          refine hK.out _ _ (K0.out.below (XBz14.out.trans (Ye37.out.mono XBz14.out.size)) K0.out.lt) (fun hH => ?_)
          clear hK K hwe
          try simp only [Act.put, getElem_toArray, getElem_cons_zero, getElem_cons_succ, setIfInBounds_toArray, set_cons_zero, set_cons_succ]
          refine wpAnyH_take (i := 13) (oi := _) (v := .int .i64 c) rfl (by kernel_rfl) (by kernel_rfl) (by kernel_rfl) (fun _ _ _ h => h) (Or.inl ⟨by rfl, fun w' hw' => by go_simp⟩) hH ?_
          try simp only [Act.put, getElem_toArray, getElem_cons_zero, getElem_cons_succ, setIfInBounds_toArray, set_cons_zero, set_cons_succ]
          refine wpAnyH_done (by kernel_rfl) (NoPanic.normal ?_) _
          refine hKc _ _ (Met.intro (hJc _ _ ?_))
          (repeat apply Exists.intro)
          exact ⟨⟨rfl, wk26.heap.size, rfl, M36, xa36, xc36, ya36, yc36, us36, HM36.out, KM37.out, Rw37.out, Rp37.out, Ye37.out⟩, rfl⟩
      · go_simp
        obtain ⟨wk38, hwk⟩ : ∃ wk, wk = World.alloc wk25 (.cells #[.int .i64 0, .int .i64 0, .int .i64 0, .int .i64 0, .int .i64 0, .int .i64 0, .int .i64 0, .int .i64 0, .int .i64 0, .int .i64 0, .int .i64 0, .int .i64 0, .int .i64 0, .int .i64 0, .int .i64 0, .slice none 0 0, .int .i64 0, .slice none 0 0] 34) := ⟨_, rfl⟩
        have b1 : Below wk25.heap.size wk25 wk38 := by rw [hwk]; exact ((Below.refl _ _).alloc (Nat.le_refl _) _)
        have Bx38 := hide (show Blk wk38 wk25.heap.size zMO 34 from by rw [hwk]; exact Blk.new wk25 _ _)
        rw [← hwk]
        have Y38 := hide (show Below w20.heap.size w20 wk38 from Y25.out.trans (b1.mono Y25.out.size))
        have X38 := hide (show Below w0.heap.size w0 wk38 from XBz14.out.trans (Y38.out.mono XBz14.out.size))
        have Qr138 := hide (own_belowT O25.out b1)
        refine hK.out _ _ (K0.out.below X38.out K0.out.lt) (fun hH => ?_)
        clear hK K b1 hwk
        try simp only [Act.put, getElem_toArray, getElem_cons_zero, getElem_cons_succ, setIfInBounds_toArray, set_cons_zero, set_cons_succ]
        refine wpAnyH_ready (rs := [3]) (by kernel_rfl) (by simp) ?_
        refine AllReadyH.cons (o := _) rfl (fun K hK => ?_) AllReadyH.nil
        go_simp
        refine (HTo.out _).mono ?_
        rintro e wk39 ⟨rfl, b1⟩
        have Y39 := hide (show Below w20.heap.size w20 wk39 from Y38.out.trans (b1.mono Y38.out.size))
        have X39 := hide (show Below w0.heap.size w0 wk39 from XBz14.out.trans (Y39.out.mono XBz14.out.size))
        have Qr139 := hide (own_belowT Qr138.out b1)
        have Bx39 := hide (Bx38.out.below b1 Bx38.out.lt)
        refine hK.out _ _ (K0.out.below X39.out K0.out.lt) (fun hH => ?_)
        clear hK K b1
        try simp only [Act.put, getElem_toArray, getElem_cons_zero, getElem_cons_succ, setIfInBounds_toArray, set_cons_zero, set_cons_succ]
        refine wpAnyH_ready (rs := [5]) (by kernel_rfl) (by simp) ?_
        refine AllReadyH.cons (o := _) rfl (fun K hK => ?_) AllReadyH.nil
        go_simp
        refine (toIntS_any _ ws _ (by rw [HN.out.2]; exact H.out.2.1.below X39.out) (by have := HN.out.2; omega)).mono ?_
        rintro e wk40 ⟨vb40, rfl, o1, b1⟩
        have O40 := hide o1
        have Y40 := hide (show Below w20.heap.size w20 wk40 from Y39.out.trans (b1.mono Y39.out.size))
        have X40 := hide (show Below w0.heap.size w0 wk40 from XBz14.out.trans (Y40.out.mono XBz14.out.size))
        have Qr140 := hide (own_belowT Qr139.out b1)
        have Bx40 := hide (Bx39.out.below b1 Bx39.out.lt)
        clear o1
        refine hK.out _ _ (K0.out.below X40.out K0.out.lt) (fun hH => ?_)
        clear hK K b1
        try simp only [Act.put, getElem_toArray, getElem_cons_zero, getElem_cons_succ, setIfInBounds_toArray, set_cons_zero, set_cons_succ]
        refine wpAnyH_ready (rs := [7]) (by kernel_rfl) (by simp) ?_
        refine AllReadyH.cons (o := _) rfl (fun K hK => ?_) AllReadyH.nil
        go_simp
        refine (HI.out va25 vb40 wk40 (Rd.own Qr140.out) (Rd.own O40.out) (H.out.2.2.below X40.out)).mono ?_
        rintro e wk41 ⟨uw, up, us41, rfl, o4, p4, b1⟩
        obtain ⟨xa41, xc41, rfl⟩ := own_shape o4
        obtain ⟨ya41, yc41, hup⟩ := own_shape p4.row
        subst hup
        have Ow41 := hide o4
        have Op41 := hide p4
        obtain ⟨M41, hM⟩ : ∃ M, M = moC RL (.slice xa41 WW.length xc41) U (.slice ya41 (PP.map neP).length yc41) := ⟨_, rfl⟩
        rw [← hM]
        have HM41 := hide hM
        have Y41 := hide (show Below w20.heap.size w20 wk41 from Y40.out.trans (b1.mono Y40.out.size))
        have X41 := hide (show Below w0.heap.size w0 wk41 from XBz14.out.trans (Y41.out.mono XBz14.out.size))
        have Qr141 := hide (own_belowT Qr140.out b1)
        have Qr241 := hide (own_belowT O40.out b1)
        have Bx41 := hide (Bx40.out.below b1 Bx40.out.lt)
        clear o4 p4 hM
        refine hK.out _ _ (K0.out.below X41.out K0.out.lt) (fun hH => ?_)
        clear hK K b1
        try simp only [Act.put, getElem_toArray, getElem_cons_zero, getElem_cons_succ, setIfInBounds_toArray, set_cons_zero, set_cons_succ]
        refine wpAnyH_take (i := 8) (oi := _) (v := .tuple #[.agg M41, .int .i64 c]) rfl (by kernel_rfl) (by kernel_rfl) (by kernel_rfl) (fun _ _ _ h => h) (Or.inl ⟨by rfl, fun w' hw' => by go_simp⟩) hH ?_
        try simp only [Act.put, getElem_toArray, getElem_cons_zero, getElem_cons_succ, setIfInBounds_toArray, set_cons_zero, set_cons_succ]
        refine wpAnyH_take (i := 9) (oi := _) (v := .agg M41) rfl (by kernel_rfl) (by kernel_rfl) (by kernel_rfl) (fun _ _ _ h => h) (Or.inl ⟨by rfl, fun w' hw' => by go_simp⟩) hH ?_
        try simp only [Act.put, getElem_toArray, getElem_cons_zero, getElem_cons_succ, setIfInBounds_toArray, set_cons_zero, set_cons_succ]
        refine wpAnyH_take (i := 10) (oi := _) (v := .int .i64 c) rfl (by kernel_rfl) (by kernel_rfl) (by kernel_rfl) (fun _ _ _ h => h) (Or.inl ⟨by rfl, fun w' hw' => by go_simp⟩) hH ?_
        try simp only [Act.put, getElem_toArray, getElem_cons_zero, getElem_cons_succ, setIfInBounds_toArray, set_cons_zero, set_cons_succ]
        refine wpAnyH_ready (rs := [12]) (by kernel_rfl) (by simp) ?_
        refine AllReadyH.cons (o := _) rfl (fun K hK => ?_) AllReadyH.nil
        rw [if_pos (by rfl)]
        refine wp_store_row 34 _ _ rfl wk25.heap.size M41 rfl rfl 34 zMO Bx41.out (by rw [HM41.out]; exact HInM.out _ _) (by rw [HM41.out, moC_size HL.out.1]; rfl) (by rw [HM41.out]; exact HOne.out _ _ _ _ _ _) ?_
        obtain ⟨we42, hwe⟩ : ∃ we, we = World.setRow wk41 wk25.heap.size M41 := ⟨_, rfl⟩
        rw [← hwe]
        have KM42 := hide (show Blk we42 wk25.heap.size M41 34 from by rw [hwe]; exact Bx41.out.row _)
        have Ye42 := hide (show Below w20.heap.size w20 we42 from by rw [hwe]; exact below_setRow Y41.out Y25.out.size _)
        have Rw42 := hide (show Rd .i64 we42 (.slice xa41 WW.length xc41) WW from by rw [hwe]; exact Rd.own (own_setRowT Ow41.out Bx41.out (by decide)))
        have Rp42 := hide (show RdN we42 1 (.slice ya41 (PP.map neP).length yc41) (PP.map neP) us41 from by rw [hwe]; exact (Op41.out.offMO Bx41.out _).rd)
        refine hK.out _ _ (K0.out.below (XBz14.out.trans (Ye42.out.mono XBz14.out.size)) K0.out.lt) (fun hH => ?_)
        clear hK K hwe
        try simp only [Act.put, getElem_toArray, getElem_cons_zero, getElem_cons_succ, setIfInBounds_toArray, set_cons_zero, set_cons_succ]
        refine wpAnyH_take (i := 13) (oi := _) (v := .int .i64 c) rfl (by kernel_rfl) (by kernel_rfl) (by kernel_rfl) (fun _ _ _ h => h) (Or.inl ⟨by rfl, fun w' hw' => by go_simp⟩) hH ?_
        try simp only [Act.put, getElem_toArray, getElem_cons_zero, getElem_cons_succ, setIfInBounds_toArray, set_cons_zero, set_cons_succ]
        refine wpAnyH_done (by kernel_rfl) (NoPanic.normal ?_) _
        refine hKc _ _ (Met.intro (hJc _ _ ?_))
        (repeat apply Exists.intro)
        exact ⟨⟨rfl, wk25.heap.size, rfl, M41, xa41, xc41, ya41, yc41, us41, HM41.out, KM42.out, Rw42.out, Rp42.out, Ye42.out⟩, rfl⟩
    · go_simp
      obtain ⟨wk43, hwk⟩ : ∃ wk, wk = World.drew (World.alloc w20 (.cells #[.int .i64 0, .int .i64 0, .int .i64 0, .int .i64 0, .int .i64 0, .int .i64 0, .int .i64 0, .int .i64 0, .int .i64 0, .int .i64 0, .int .i64 0, .int .i64 0, .int .i64 0, .int .i64 0, .int .i64 0, .slice none 0 0, .int .i64 0, .slice none 0 0] 34)) := ⟨_, rfl⟩
      have b1 : Below w20.heap.size w20 wk43 := by rw [hwk]; exact ((Below.refl _ _).alloc (Nat.le_refl _) _).drew
      have Bx43 := hide (show Blk wk43 w20.heap.size zMO 34 from by rw [hwk]; exact Blk.new w20 _ _)
      rw [← hwk]
      have Y43 := hide (show Below w20.heap.size w20 wk43 from b1)
      have X43 := hide (show Below w0.heap.size w0 wk43 from XBz14.out.trans (Y43.out.mono XBz14.out.size))
      refine hK.out _ _ (K0.out.below X43.out K0.out.lt) (fun hH => ?_)
      clear hK K b1 hwk
      try simp only [Act.put, getElem_toArray, getElem_cons_zero, getElem_cons_succ, setIfInBounds_toArray, set_cons_zero, set_cons_succ]
      refine wpAnyH_ready (rs := [1]) (by kernel_rfl) (by simp) ?_
      refine AllReadyH.cons (o := _) rfl (fun K hK => ?_) AllReadyH.nil
      go_simp
      refine (toByteS_any _ zs _ (by rw [HN.out.1]; exact H.out.1.below X43.out) (by have := HN.out.1; omega)).mono ?_
      rintro e wk44 ⟨va44, rfl, o1, b1⟩
      have O44 := hide o1
      have Y44 := hide (show Below w20.heap.size w20 wk44 from Y43.out.trans (b1.mono Y43.out.size))
      have X44 := hide (show Below w0.heap.size w0 wk44 from XBz14.out.trans (Y44.out.mono XBz14.out.size))
      have Bx44 := hide (Bx43.out.below b1 Bx43.out.lt)
      clear o1
      refine hK.out _ _ (K0.out.below X44.out K0.out.lt) (fun hH => ?_)
      clear hK K b1
      try simp only [Act.put, getElem_toArray, getElem_cons_zero, getElem_cons_succ, setIfInBounds_toArray, set_cons_zero, set_cons_succ]
      refine wpAnyH_ready (rs := [3]) (by kernel_rfl) (by simp) ?_
      refine AllReadyH.cons (o := _) rfl (fun K hK => ?_) AllReadyH.nil
      go_simp
      refine (HTo.out _).mono ?_
      rintro e wk45 ⟨rfl, b1⟩
      have Y45 := hide (show Below w20.heap.size w20 wk45 from Y44.out.trans (b1.mono Y44.out.size))
      have X45 := hide (show Below w0.heap.size w0 wk45 from XBz14.out.trans (Y45.out.mono XBz14.out.size))
      have Qr145 := hide (own_belowT O44.out b1)
      have Bx45 := hide (Bx44.out.below b1 Bx44.out.lt)
      refine hK.out _ _ (K0.out.below X45.out K0.out.lt) (fun hH => ?_)
      clear hK K b1
      try simp only [Act.put, getElem_toArray, getElem_cons_zero, getElem_cons_succ, setIfInBounds_toArray, set_cons_zero, set_cons_succ]
      refine wpAnyH_ready (rs := [5]) (by kernel_rfl) (by simp) ?_
      refine AllReadyH.cons (o := _) rfl (fun K hK => ?_) AllReadyH.nil
      go_simp
      refine (toIntS_any _ ws _ (by rw [HN.out.2]; exact H.out.2.1.below X45.out) (by have := HN.out.2; omega)).mono ?_
      rintro e wk46 ⟨vb46, rfl, o1, b1⟩
      have O46 := hide o1
      have Y46 := hide (show Below w20.heap.size w20 wk46 from Y45.out.trans (b1.mono Y45.out.size))
      have X46 := hide (show Below w0.heap.size w0 wk46 from XBz14.out.trans (Y46.out.mono XBz14.out.size))
      have Qr146 := hide (own_belowT Qr145.out b1)
      have Bx46 := hide (Bx45.out.below b1 Bx45.out.lt)
      clear o1
      refine hK.out _ _ (K0.out.below X46.out K0.out.lt) (fun hH => ?_)
      clear hK K b1
      try simp only [Act.put, getElem_toArray, getElem_cons_zero, getElem_cons_succ, setIfInBounds_toArray, set_cons_zero, set_cons_succ]
      refine wpAnyH_ready (rs := [7]) (by kernel_rfl) (by simp) ?_
      refine AllReadyH.cons (o := _) rfl (fun K hK => ?_) AllReadyH.nil
      go_simp
      refine (HI.out va44 vb46 wk46 (Rd.own Qr146.out) (Rd.own O46.out) (H.out.2.2.below X46.out)).mono ?_
      rintro e wk47 ⟨uw, up, us47, rfl, o4, p4, b1⟩
      obtain ⟨xa47, xc47, rfl⟩ := own_shape o4
      obtain ⟨ya47, yc47, hup⟩ := own_shape p4.row
      subst hup
      have Ow47 := hide o4
      have Op47 := hide p4
      obtain ⟨M47, hM⟩ : ∃ M, M = moC RL (.slice xa47 WW.length xc47) U (.slice ya47 (PP.map neP).length yc47) := ⟨_, rfl⟩
      rw [← hM]
      have HM47 := hide hM
      have Y47 := hide (show Below w20.heap.size w20 wk47 from Y46.out.trans (b1.mono Y46.out.size))
      have X47 := hide (show Below w0.heap.size w0 wk47 from XBz14.out.trans (Y47.out.mono XBz14.out.size))
      have Qr147 := hide (own_belowT Qr146.out b1)
      have Qr247 := hide (own_belowT O46.out b1)
      have Bx47 := hide (Bx46.out.below b1 Bx46.out.lt)
      clear o4 p4 hM
      refine hK.out _ _ (K0.out.below X47.out K0.out.lt) (fun hH => ?_)
      clear hK K b1
      try simp only [Act.put, getElem_toArray, getElem_cons_zero, getElem_cons_succ, setIfInBounds_toArray, set_cons_zero, set_cons_succ]
      refine wpAnyH_take (i := 8) (oi := _) (v := .tuple #[.agg M47, .int .i64 c]) rfl (by kernel_rfl) (by kernel_rfl) (by kernel_rfl) (fun _ _ _ h => h) (Or.inl ⟨by rfl, fun w' hw' => by go_simp⟩) hH ?_
      try simp only [Act.put, getElem_toArray, getElem_cons_zero, getElem_cons_succ, setIfInBounds_toArray, set_cons_zero, set_cons_succ]
      refine wpAnyH_take (i := 9) (oi := _) (v := .agg M47) rfl (by kernel_rfl) (by kernel_rfl) (by kernel_rfl) (fun _ _ _ h => h) (Or.inl ⟨by rfl, fun w' hw' => by go_simp⟩) hH ?_
      try simp only [Act.put, getElem_toArray, getElem_cons_zero, getElem_cons_succ, setIfInBounds_toArray, set_cons_zero, set_cons_succ]
      refine wpAnyH_take (i := 10) (oi := _) (v := .int .i64 c) rfl (by kernel_rfl) (by kernel_rfl) (by kernel_rfl) (fun _ _ _ h => h) (Or.inl ⟨by rfl, fun w' hw' => by go_simp⟩) hH ?_
      try simp only [Act.put, getElem_toArray, getElem_cons_zero, getElem_cons_succ, setIfInBounds_toArray, set_cons_zero, set_cons_succ]
      refine wpAnyH_ready (rs := [12]) (by kernel_rfl) (by simp) ?_
      refine AllReadyH.cons (o := _) rfl (fun K hK => ?_) AllReadyH.nil
      rw [if_pos (by rfl)]
      refine wp_store_row 34 _ _ rfl w20.heap.size M47 rfl rfl 34 zMO Bx47.out (by rw [HM47.out]; exact HInM.out _ _) (by rw [HM47.out, moC_size HL.out.1]; rfl) (by rw [HM47.out]; exact HOne.out _ _ _ _ _ _) ?_
      obtain ⟨we48, hwe⟩ : ∃ we, we = World.setRow wk47 w20.heap.size M47 := ⟨_, rfl⟩
      rw [← hwe]
      have KM48 := hide (show Blk we48 w20.heap.size M47 34 from by rw [hwe]; exact Bx47.out.row _)
      have Ye48 := hide (show Below w20.heap.size w20 we48 from by rw [hwe]; exact below_setRow Y47.out (Nat.le_refl _) _)
      have Rw48 := hide (show Rd .i64 we48 (.slice xa47 WW.length xc47) WW from by rw [hwe]; exact Rd.own (own_setRowT Ow47.out Bx47.out (by decide)))
      have Rp48 := hide (show RdN we48 1 (.slice ya47 (PP.map neP).length yc47) (PP.map neP) us47 from by rw [hwe]; exact (Op47.out.offMO Bx47.out _).rd)
      refine hK.out _ _ (K0.out.below (XBz14.out.trans (Ye48.out.mono XBz14.out.size)) K0.out.lt) (fun hH => ?_)
      clear hK K hwe
      try simp only [Act.put, getElem_toArray, getElem_cons_zero, getElem_cons_succ, setIfInBounds_toArray, set_cons_zero, set_cons_succ]
      refine wpAnyH_take (i := 13) (oi := _) (v := .int .i64 c) rfl (by kernel_rfl) (by kernel_rfl) (by kernel_rfl) (fun _ _ _ h => h) (Or.inl ⟨by rfl, fun w' hw' => by go_simp⟩) hH ?_
      try simp only [Act.put, getElem_toArray, getElem_cons_zero, getElem_cons_succ, setIfInBounds_toArray, set_cons_zero, set_cons_succ]
      refine wpAnyH_done (by kernel_rfl) (NoPanic.normal ?_) _
      refine hKc _ _ (Met.intro (hJc _ _ ?_))
      (repeat apply Exists.intro)
      exact ⟨⟨rfl, w20.heap.size, rfl, M47, xa47, xc47, ya47, yc47, us47, HM47.out, KM48.out, Rw48.out, Rp48.out, Ye48.out⟩, rfl⟩
  case rest =>
  obtain ⟨rfl, bH, rfl, MH, xaH, xcH, yaH, ycH, usH, hMH, kMH, rwH, rpH, b⟩ := hcut
  rename World => wH
  have HMH := hide hMH
  have KHh := hide kMH
  have RH := hide (And.intro rwH rpH)
  have GWq := hide (GWn.out.below b)
  have GPq := hide (GPn.out.below b)
  have KGq := hide (KGn.out.below b KGn.out.lt)
  clear GWn GPn KGn hMH kMH rwH rpH
  have XBz15 := hide (show Below w0.heap.size w0 wH from XBz14.out.trans (b.mono XBz14.out.size))
  have SBz15 := hide (show Below wS.heap.size wS wH from SBz14.out.trans (b.mono SBz14.out.size))
  clear XBz14 SBz14
  clear b
  have KSc := hide (KS.out.below SBz15.out KS.out.lt)
  go_wp2_with (first
    | (refine wpList_load_row rfl 34 _ rfl bH rfl 34 MH (0, 0) _ KHh.out Tryz.underlying34 rfl (by rw [HMH.out]; exact HInM.out _ _) ?_)
    | (refine wpList_load_row rfl 34 _ rfl bS rfl 34 MS (0, 0) _ KSc.out Tryz.underlying34 rfl (by rw [HMS.out]; exact HInM.out _ _) ?_)
    | (go_at_call 19; fail))
  rw [HMH.out, HMS.out]
  refine (eqMapOut_same RL HL.out.1 U _ _ _ _ WW PP _ _ wH RH.out.1 (RS.out.1.below SBz15.out) RH.out.2 (RS.out.2.below SBz15.out)).mono ?_
  rintro e w22 ⟨rfl, b⟩
  have GWr := hide (GWq.out.below b)
  have GPr := hide (GPq.out.below b)
  have KGr := hide (KGq.out.below b KGq.out.lt)
  clear GWq GPq KGq
  clear KSc
  have XBz16 := hide (show Below w0.heap.size w0 w22 from XBz15.out.trans (b.mono XBz15.out.size))
  have SBz16 := hide (show Below wS.heap.size wS w22 from SBz15.out.trans (b.mono SBz15.out.size))
  clear XBz15 SBz15
  clear b
  go_wp2_with (first
    | (refine wpList_load_row rfl 34 _ rfl bG rfl 34 MG (0, 0) _ KGr.out Tryz.underlying34 rfl (by rw [HMG.out]; exact HInM.out _ _) ?_)
    | (go_at_call 25; fail))
  rw [HMG.out]
  refine (heldMapOut_any RL HL.out.1 U (.slice gxa WW.length gxc) (.slice gya (PP.map neP).length gyc) WN 1 PP gs w22 GWr.out GPr.out (by omega) (by omega) (by rw [← HEN.out]; exact hENb)).mono ?_
  rintro e w23 ⟨he, b⟩
  rw [← HEN.out] at he
  subst he
  have XBe := hide (show Below w0.heap.size w0 w23 from XBz16.out.trans (b.mono XBz16.out.size))
  clear b
  go_wp2
  go_ret
  exact ⟨rfl, B00.out.trans (XBe.out.mono B00.out.size)⟩
end Go.Proofs.YtlimollpocagiaaGreatDoor
