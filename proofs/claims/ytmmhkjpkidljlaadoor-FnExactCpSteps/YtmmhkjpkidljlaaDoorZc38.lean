/- The program's CpSteps. -/
import Derived.Test.YtmmhkjpkidljlaaDoorZc37
namespace Go.Proofs.YtmmhkjpkidljlaaDoor
set_option linter.unusedVariables false
set_option linter.unusedSimpArgs false
open Go.RowKit

theorem infoDz : (Tryd.prog.info? 54).map (fun i => (i.zero, i.size, i.bytes)) = some (some (.agg #[.int .i64 0, .int .i64 0, .slice none 0 0]), 3, 40) := by kernel_rfl
theorem infoC69 : (Tryd.prog.info? 40).map (·.size) = some 69 := by kernel_rfl
/-- A plan's cells. -/
def cpC (v : Value) (F : List Int) : Array Value := (v :: F.map (Value.int .i64)).toArray
theorem cpC_size (v : Value) (F : List Int) (h : F.length = 68) : (cpC v F).size = 69 := by simp [cpC, h]
theorem cp_range {w : World} {b : Nat} {v : Value} {F : List Int} {t : TypeId} (h : Blk w b (cpC v F) t) : w.rangeAt b 1 (F.map (Value.int .i64)) := by
  intro j u hu
  rw [h.cell (1 + j), Nat.add_comm]
  simpa [cpC] using hu
theorem cp_head {w : World} {b : Nat} {v : Value} {F : List Int} {t : TypeId} (h : Blk w b (cpC v F) t) : w.cell? ⟨b, 0, none⟩ = some v := by
  rw [h.cell 0]
  simp [cpC]
theorem OwnN.concat {W W' : World} {base : Nat} {e : TypeId} {m : Nat} {v v2 v' : Value} {L M : List NE} {vs us : List Value} (h : OwnN W base e m v L vs) (k : OwnN W base e m v2 M us) (he : e ≠ 5)
    (hnew : ∀ (i j : Nat) (u u' : Value) (b : Nat), vs[i]? = some u → us[j]? = some u' → u.ownBlock = some b → u'.ownBlock ≠ some b)
    (ho : W'.ownsRow base e (m + 1) v' (L.length + M.length) (cellsN vs L ++ cellsN us M)) (hg : W.grownBy W' v.ownBlock) : OwnN W' base e m v' (L ++ M) (vs ++ us) := by
  have kept : ∀ (x : Value) (n : Nat) (xs : List Value), W.ownsRow base 5 1 x n xs → W'.ownsRow base 5 1 x n xs := fun x n xs hx => hx.kept hg (own_apart hx h.row (Ne.symm he))
  have hcase : ∀ (i : Nat) (y : Value), (vs ++ us)[i]? = some y → (i < vs.length ∧ vs[i]? = some y) ∨ (vs.length ≤ i ∧ us[i - vs.length]? = some y) := fun i y hy => by
    by_cases hi : i < vs.length
    · rw [List.getElem?_append_left hi] at hy; exact .inl ⟨hi, hy⟩
    · rw [List.getElem?_append_right (by omega)] at hy; exact .inr ⟨by omega, hy⟩
  refine ⟨by simp [h.len, k.len], fun x hx => ?_, ?_, fun i x y hx hy => ?_, fun i j x x' b hx hx' hb hb' => ?_⟩
  · rw [List.mem_append] at hx
    rcases hx with hx | hx
    · exact h.pre x hx
    · exact k.pre x hx
  · rw [cellsN_append vs L us M h.len, List.length_append]
    exact ho
  · rcases hcase i x hx with ⟨hi, h1⟩ | ⟨hi, h1⟩
    · rw [List.getElem?_append_left (by rw [← h.len]; exact hi)] at hy
      exact kept _ _ _ (h.dat i x y h1 hy)
    · rw [List.getElem?_append_right (by rw [← h.len]; exact hi), ← h.len] at hy
      exact kept _ _ _ (k.dat _ x y h1 hy)
  · rcases hcase i x hx with ⟨hi, h1⟩ | ⟨hi, h1⟩
    · rcases hcase j x' hx' with ⟨hj, h2⟩ | ⟨hj, h2⟩
      · exact h.one i j x x' b h1 h2 hb hb'
      · exact absurd hb' (hnew i _ x x' b h1 h2 hb)
    · rcases hcase j x' hx' with ⟨hj, h2⟩ | ⟨hj, h2⟩
      · exact absurd hb (hnew j _ x' x b h2 h1 hb')
      · have := k.one _ _ x x' b h1 h2 hb hb'
        omega
/-- The blocks of an own list's bytes are there. -/
theorem OwnN.ltN {W : World} {base : Nat} {e : TypeId} {m : Nat} {v : Value} {L : List NE} {vs : List Value} (h : OwnN W base e m v L vs) {i : Nat} {u : Value} {b : Nat} (hu : vs[i]? = some u) (hb : u.ownBlock = some b) : base ≤ b ∧ b < W.heap.size := by
  have hi : i < L.length := by rw [← h.len]; exact (List.getElem?_eq_some_iff.1 hu).1
  exact (h.dat i u _ hu (List.getElem?_eq_getElem hi)).lt b hb
/-- A Put as a step. -/
def stD (p : Int × List Int) : Int × Int × List Int := (2, p.1, p.2)
def recsL (enc : List Int) : Nat → List (Int × Int × List Int)
  | 0 => []
  | k + 1 => recsL enc k ++ recL k enc
/-- The steps of a plan. -/
def stepsL (Q : List (Int × List Int)) (enc : List Int) (k : Nat) : List (Int × Int × List Int) := (Q.map stD ++ [(3, 0, [])]) ++ recsL enc k
theorem stepsL_len (Q : List (Int × List Int)) (enc : List Int) (k : Nat) : (stepsL Q enc k).length = Q.length + 1 + 2 * k := by
  have : ∀ k, (recsL enc k).length = 2 * k := by
    intro k
    induction k with
    | zero => rfl
    | succ k ih => rw [recsL, List.length_append, ih]; simp [recL]; omega
  simp [stepsL, this]
  omega
/-- In the midst of the program's CpSteps. -/
structure IC (w wr : World) (v : Value) (F : List Int) (st : Value) (S : List (Int × Int × List Int)) (vs : List Value) : Prop where
  own : OwnN wr (w.heap.size + 1) 54 2 st (S.map neD) vs
  box : Blk wr w.heap.size (cpC v F) 40
  low : Below w.heap.size w wr
theorem IC.below {w wr w' : World} {v : Value} {F : List Int} {st : Value} {S : List (Int × Int × List Int)} {vs : List Value} (h : IC w wr v F st S vs) (hb : Below wr.heap.size wr w') : IC w w' v F st S vs :=
  ⟨h.own.below hb, h.box.below hb h.box.lt, h.low.trans (hb.mono h.low.size)⟩
theorem IC.grew {w wr w2 w' : World} {v : Value} {F : List Int} {st st' : Value} {S S' : List (Int × Int × List Int)} {vs vs' : List Value} (h : IC w wr v F st S vs) (ho : OwnN w' (w.heap.size + 1) 54 2 st' (S'.map neD) vs') (hb : Below wr.heap.size wr w2) (hg : w2.grownBy w' st.ownBlock) : IC w w' v F st' S' vs' := by
  have hne : ∀ k, st.ownBlock = some k → w.heap.size + 1 ≤ k := fun k hk => (h.own.row.lt k hk).1
  refine ⟨ho, ?_, ?_⟩
  · have k1 := h.box.below hb h.box.lt
    exact (hg.block _ k1.lt (fun e => by have := hne _ e.symm; omega)).trans k1
  · exact (h.low.trans (hb.mono h.low.size)).grown hg (Nat.le_trans h.low.size hb.size) (fun k e => by have := hne k e; omega)
theorem one3 (a b : Int) (x : Option Addr) (n c : Nat) : ∀ u ∈ [Value.int .i64 a, Value.int .i64 b, Value.slice x n c], u.oneCell' = true := by
  intro u hu
  simp at hu
  rcases hu with rfl | rfl | rfl <;> rfl
theorem new3 (w : World) (cs : List Value) (t : TypeId) : ∀ (j : Nat) (u : Value), cs[j]? = some u → (w.alloc (.cells cs.toArray t)).cell? ((⟨w.heap.size, 0, none⟩ : Addr).add j) = some u := by
  intro j u hu
  rw [Addr.add_mid, Nat.zero_add, (Blk.new w cs.toArray t).cell j]
  simpa using hu

set_option maxRecDepth 100000 in
set_option maxHeartbeats 8000000 in
theorem implCp_any (v : Value) (Q : List (Int × List Int)) (us : List Value) (F : List Int) (r : Bool) (enc : List Int) (w : World) (h : RdN w 1 v (Q.map neP) us) (hF : FsK F r enc) (hq : Q.length ≤ 1048576) (hb : ∀ p ∈ Q, p.2.length ≤ 1048576) (hg : ErrT w) (hL : LetF w) :
    Calls Tryd.prog 7 #[.agg (cpC v F)] w fun e w' => ∃ st vs, e = .returned (.tuple #[st, .int .i64 (if r = true then 0 else 7)]) ∧ OwnN w' w.heap.size 54 2 st ((if r = true then stepsL Q enc 2 else []).map neD) vs ∧ Below w.heap.size w w' := by
  obtain ⟨i0, hi, hz0, hz1, hz2⟩ := info_parts infoDz
  obtain ⟨a, cap, rfl⟩ : ∃ a cap, v = .slice a Q.length cap := by obtain ⟨a, cap, e, _⟩ := h.row; exact ⟨a, cap, by simpa using e⟩
  have hm : Q.length ≤ 9223372036854775807 := by omega
  have HQ := hide (show RdN w 1 (.slice a (Q.map neP).length cap) (Q.map neP) us from by simpa using h)
  have H := hide (And.intro hg hL)
  have HF := hide hF
  have HB := hide hb
  have HZ := hide (cpC_size (.slice a Q.length cap) F hF.len)
  have HZF := hide (show (F.map (Value.int .i64)).length = 68 by rw [List.length_map]; exact hF.len)
  have hes := hF.small
  have K0 := hide (And.intro (Blk.new w (cpC (.slice a Q.length cap) F) 40) (show Below w.heap.size w (w.alloc (.cells (cpC (.slice a Q.length cap) F) 40)) from (Below.refl _ _).alloc (Nat.le_refl _) _))
  clear h hg hL hF hb
  go_enter Tryd.func7, Tryd.ntmps7
  go_wp2_with (first | (refine wpList_load_mid rfl 38 _ rfl w.heap.size 1 rfl (F.map (Value.int .i64)) _ (cp_range K0.out.1) Tryd.underlying38 rfl (by rw [HZF.out]; exact info68) ?_) | fail)
  refine (HF.out.fault _).mono ?_
  rintro e w1 ⟨ev', rfl, hf, b1⟩
  have K1 := hide (And.intro (K0.out.1.below b1 K0.out.1.lt) (K0.out.2.trans (b1.mono K0.out.2.size)))
  clear b1 K0
  rcases hf with ⟨hr, rfl⟩ | ⟨hr, m, hm'⟩
  · subst hr
    have I1 := hide (show IC w w1 (.slice a Q.length cap) F (.slice none 0 0) ((Q.take 0).map stD) [] from ⟨OwnN.nil _ _ _ _, K1.out.1, K1.out.2⟩)
    have c0 := cp_head K1.out.1
    clear K1
    go_wp2
    clear c0
    go_loopw [5, 19] (fun st i wr => ∃ (k : Nat) (vs : List Value), k ≤ Q.length ∧ i = .int .i64 (k : Int) ∧ IC w wr (.slice a Q.length cap) F st ((Q.take k).map stD) vs) (fun _ i _ => Q.length - (intOf i).toNat)
    case atStart => exact ⟨0, [], Nat.zero_le _, rfl, I1.out⟩
    case round =>
      clear I1
      obtain ⟨k, vs, hk, rfl, hic⟩ := hrel
      have HI := hide hic
      obtain ⟨sa, sc, hst⟩ := own_shape hic.own.row
      clear hic
      by_cases hlt : k < Q.length
      · obtain ⟨p, hp⟩ : ∃ p, Q[k]? = some p := ⟨_, List.getElem?_eq_getElem hlt⟩
        obtain ⟨x0, zs⟩ := p
        obtain ⟨b, off, u, e0, hb0, hu, hrd, hrg⟩ := (HQ.out.below HI.out.low).at (i := k) (l := neP (x0, zs)) (by rw [List.getElem?_map, hp]; rfl)
        subst e0
        have hzs := HB.out (x0, zs) (List.mem_of_getElem? hp)
        simp only at hzs
        have HTk := hide (show (Q.take (k + 1)).map stD = (Q.take k).map stD ++ [(2, x0, zs)] by rw [List.take_add_one, hp]; simp [stD])
        have hTl : ((Q.take k).map stD).length = k := by simp; omega
        have HTl := hide hTl
        have HRg := hide (show wr.rangeAt b (off + k * 2) [.int .i64 x0, u] from hrg)
        have hrd2 : Rd .u8 wr u zs := hrd
        obtain ⟨au, cu, rfl⟩ := rd_shape hrd2
        have HRd := hide hrd2
        have HN := hide (Blk.new wr #[.int .i64 x0, .slice au zs.length cu] 52)
        have HBn := hide (show Below wr.heap.size wr (wr.alloc (.cells #[.int .i64 x0, .slice au zs.length cu] 52)) from (Below.refl _ _).alloc (Nat.le_refl _) _)
        clear hrg hrd hrd2 hu hp hTl hst
        go_wp2_with (first | (refine wpList_load_mid rfl 52 _ rfl b (off + k * 2) rfl [.int .i64 x0, .slice au zs.length cu] _ HRg.out Tryd.underlying52 rfl infoP2 ?_) | fail)
        refine wp_region_noPanic ?_
        refine wp_region_held_drew (S := fun w' => Blk w' wr.heap.size #[.int .i64 x0, .slice au zs.length cu] 52) (by kernel_rfl) HN.out (fun hH => ?_)
        refine wpAnyH_take (i := 0) (oi := _) (v := u5) rfl (by kernel_rfl) (by kernel_rfl) (by kernel_rfl) (fun _ _ _ h => h) (Or.inl ⟨by rfl, fun w' hw' => by go_simp⟩) hH ?_
        try simp only [Act.put, List.getElem_toArray, List.getElem_cons_zero, List.getElem_cons_succ, List.setIfInBounds_toArray, List.set_cons_zero, List.set_cons_succ]
        refine wpAnyH_take (i := 1) (oi := _) (v := .pointer (some ⟨wr.heap.size, 0, none⟩)) rfl (by kernel_rfl) (by kernel_rfl) (by kernel_rfl) (fun _ _ _ h => h) (Or.inl ⟨by rfl, fun w' hw' => by go_simp⟩) hH ?_
        try simp only [Act.put, List.getElem_toArray, List.getElem_cons_zero, List.getElem_cons_succ, List.setIfInBounds_toArray, List.set_cons_zero, List.set_cons_succ]
        refine wpAnyH_take (i := 2) (oi := _) (v := .int .i64 x0) rfl (by kernel_rfl) (by kernel_rfl) (by kernel_rfl) (fun _ _ _ h => h) (Or.inl ⟨by rfl, fun w' hw' => by have hc := (Blk.cell hw' 0).trans (show _ = some (Value.int .i64 x0) from rfl); go_simp⟩) hH ?_
        try simp only [Act.put, List.getElem_toArray, List.getElem_cons_zero, List.getElem_cons_succ, List.setIfInBounds_toArray, List.set_cons_zero, List.set_cons_succ]
        refine wpAnyH_take (i := 3) (oi := _) (v := .pointer (some ⟨wr.heap.size, 1, none⟩)) rfl (by kernel_rfl) (by kernel_rfl) (by kernel_rfl) (fun _ _ _ h => h) (Or.inl ⟨by rfl, fun w' hw' => by go_simp⟩) hH ?_
        try simp only [Act.put, List.getElem_toArray, List.getElem_cons_zero, List.getElem_cons_succ, List.setIfInBounds_toArray, List.set_cons_zero, List.set_cons_succ]
        refine wpAnyH_take (i := 4) (oi := _) (v := .slice au zs.length cu) rfl (by kernel_rfl) (by kernel_rfl) (by kernel_rfl) (fun _ _ _ h => h) (Or.inl ⟨by rfl, fun w' hw' => by have hc := (Blk.cell hw' 1).trans (show _ = some (Value.slice au zs.length cu) from rfl); go_simp⟩) hH ?_
        try simp only [Act.put, List.getElem_toArray, List.getElem_cons_zero, List.getElem_cons_succ, List.setIfInBounds_toArray, List.set_cons_zero, List.set_cons_succ]
        refine wpAnyH_ready (rs := [5]) (by kernel_rfl) (by simp) ?_
        refine AllReadyH.cons (o := _) rfl (fun K hK => ?_) AllReadyH.nil
        go_simp
        have BD := hide (HBn.out.trans ((show Below (wr.alloc (.cells #[.int .i64 x0, .slice au zs.length cu] 52)).heap.size _ _ from (Below.refl _ _).drew).mono HBn.out.size))
        refine (clone_any _ zs _ (HRd.out.below BD.out) hzs).mono ?_
        rintro e w2 ⟨uc, rfl, o2, b2⟩
        obtain ⟨ac, cc, rfl⟩ := own_shape o2
        have B2 := hide (BD.out.trans (b2.mono BD.out.size))
        have N2 := hide (HN.out.below (((Below.refl _ _).drew).trans b2) HN.out.lt)
        have O2 := hide (And.intro o2 (And.intro (own_mono o2 (show w.heap.size + 1 ≤ _ from by have := HI.out.box.lt; have := BD.out.size; omega)) BD.out.size))
        clear o2 b2
        refine hK.out _ _ N2.out (fun hH => ?_)
        clear hK K
        try simp only [Act.put, List.getElem_toArray, List.getElem_cons_zero, List.getElem_cons_succ, List.setIfInBounds_toArray, List.set_cons_zero, List.set_cons_succ]
        refine wpAnyH_take (i := 6) (oi := _) (v := .agg #[.int .i64 2, .int .i64 x0, .slice ac zs.length cc]) rfl (by kernel_rfl) (by kernel_rfl) (by kernel_rfl) (fun _ _ _ h => h) (Or.inl ⟨by rfl, fun w' hw' => by go_simp⟩) hH ?_
        try simp only [Act.put, List.getElem_toArray, List.getElem_cons_zero, List.getElem_cons_succ, List.setIfInBounds_toArray, List.set_cons_zero, List.set_cons_succ]
        refine wpAnyH_ready (rs := [7]) (by kernel_rfl) (by simp) ?_
        refine AllReadyH.cons (o := _) rfl (fun K hK => ?_) AllReadyH.nil
        go_simp
        refine hK.out _ _ (N2.out.alloc _) (fun hH => ?_)
        clear hK K
        try simp only [Act.put, List.getElem_toArray, List.getElem_cons_zero, List.getElem_cons_succ, List.setIfInBounds_toArray, List.set_cons_zero, List.set_cons_succ]
        have O3 := hide ((HI.out.own.below B2.out).row.alloc (.cells #[.int .i64 2, .int .i64 x0, .slice ac zs.length cc] 54))
        refine wpAnyH_ready (rs := [8]) (by kernel_rfl) (by simp) ?_
        refine AllReadyH.cons (o := _) rfl (fun K hK => ?_) AllReadyH.nil
        rw [if_pos (by rfl)]
        refine wp_append_own _ (.tmp 23) (.tmp 30) 32 rfl (w.heap.size + 1) 54 i0 (.agg #[.int .i64 0, .int .i64 0, .slice none 0 0]) 3 40 Tryd.underlying32 hi hz0 hz1 hz2 rfl (by decide) _ _ _ rfl O3.out ⟨w2.heap.size, 0, none⟩ 1 1 [.int .i64 2, .int .i64 x0, .slice ac zs.length cc] rfl rfl (new3 w2 [.int .i64 2, .int .i64 x0, .slice ac zs.length cc] 54) (one3 _ _ _ _ _) (by rw [List.length_map, HTl.out]; unfold maxLen; omega) (by rw [List.length_map, HTl.out]; omega) (by have := HI.out.box.lt; have := B2.out.size; simp; omega) ?_
        intro v3 w3 o3 g3 _
        have OP := hide ((HI.out.own.below (B2.out.trans ((show Below w2.heap.size w2 (w2.alloc (.cells #[.int .i64 2, .int .i64 x0, .slice ac zs.length cc] 54)) from (Below.refl _ _).alloc (Nat.le_refl _) _).mono B2.out.size))).push (by decide) (neD (2, x0, zs)) (.slice ac zs.length cc) rfl (own_below O2.out.2.1 ((Below.refl _ _).alloc (Nat.le_refl _) _)) (fun i x q hx hq e => by have h1 := (O2.out.1.lt q e).1; have h2 := (HI.out.own.ltN hx hq).2; have := O2.out.2.2; omega) o3 g3)
        have IP := hide (HI.out.grew (S' := (Q.take (k + 1)).map stD) (by rw [HTk.out, List.map_append]; exact OP.out) (B2.out.trans ((show Below w2.heap.size w2 (w2.alloc (.cells #[.int .i64 2, .int .i64 x0, .slice ac zs.length cc] 54)) from (Below.refl _ _).alloc (Nat.le_refl _) _).mono B2.out.size)) g3)
        have N3 := hide (show Blk w3 wr.heap.size #[.int .i64 x0, .slice au zs.length cu] 52 from (g3.block _ (N2.out.alloc _).lt (fun e => by have h1 := (HI.out.own.row.lt _ e.symm).2; omega)).trans (N2.out.alloc _))
        clear o3 g3 O3 OP
        refine hK.out _ _ N3.out (fun hH => ?_)
        clear hK K
        try simp only [Act.put, List.getElem_toArray, List.getElem_cons_zero, List.getElem_cons_succ, List.setIfInBounds_toArray, List.set_cons_zero, List.set_cons_succ]
        refine wpAnyH_take (i := 9) (oi := _) (v := v3) rfl (by kernel_rfl) (by kernel_rfl) (by kernel_rfl) (fun _ _ _ h => h) (Or.inl ⟨by rfl, fun w' hw' => by go_simp⟩) hH ?_
        try simp only [Act.put, List.getElem_toArray, List.getElem_cons_zero, List.getElem_cons_succ, List.setIfInBounds_toArray, List.set_cons_zero, List.set_cons_succ]
        refine wpAnyH_done (by kernel_rfl) (NoPanic.normal ?_) _
        clear hH
        go_wp2
        go_roundw
        case rel => exact ⟨k + 1, _, by omega, by go_num, IP.out⟩
        case measure => simp [intOf]; omega
      · obtain rfl : k = Q.length := by omega
        have HTk := hide (show (Q.take Q.length).map stD = Q.map stD by rw [List.take_length])
        rw [HTk.out] at HI
        have O3 := hide (HI.out.own.row.alloc (.cells #[.int .i64 3, .int .i64 0, .slice none 0 0] 54))
        have BA := hide (show Below wr.heap.size wr (wr.alloc (.cells #[.int .i64 3, .int .i64 0, .slice none 0 0] 54)) from (Below.refl _ _).alloc (Nat.le_refl _) _)
        clear HTk
        go_wp2_with (first | (at_builtin; refine wpList_append_own _ rfl (.tmp 33) (.tmp 35) 32 rfl (w.heap.size + 1) 54 i0 (.agg #[.int .i64 0, .int .i64 0, .slice none 0 0]) 3 40 Tryd.underlying32 hi hz0 hz1 hz2 rfl (by decide) _ _ _ rfl O3.out ⟨wr.heap.size, 0, none⟩ 1 1 [.int .i64 3, .int .i64 0, .slice none 0 0] rfl rfl (new3 wr [.int .i64 3, .int .i64 0, .slice none 0 0] 54) (one3 _ _ _ _ _) (by simp; unfold maxLen; omega) (by simp; omega) (by have := HI.out.box.lt; simp; omega) ?_; intro v3 w3 o3 g3 _; have I3 := hide (HI.out.grew (S' := stepsL Q enc 0) (show OwnN w3 (w.heap.size + 1) 54 2 v3 ((stepsL Q enc 0).map neD) _ from by rw [show (stepsL Q enc 0).map neD = (Q.map stD).map neD ++ [neD (3, 0, [])] by simp [stepsL, recsL]]; exact (HI.out.own.below BA.out).push (by decide) (neD (3, 0, [])) (.slice none 0 0) rfl ⟨rfl, .inl ⟨rfl, rfl⟩⟩ (fun i x q hx hq e => by cases e) o3 g3) BA.out g3); clear o3 g3) | fail)
        clear HI O3 BA
        go_loopw [5, 37] (fun st i wr => ∃ (k : Nat) (vs : List Value), k ≤ 2 ∧ i = .int .i64 (k : Int) ∧ IC w wr (.slice a Q.length cap) F st (stepsL Q enc k) vs) (fun _ i _ => 2 - (intOf i).toNat)
        case atStart => exact ⟨0, _, by omega, rfl, I3.out⟩
        case round =>
          clear I3
          obtain ⟨k, vs, hk, rfl, hic⟩ := hrel
          have HI := hide hic
          clear hic
          by_cases hlt : k < 2
          · go_wp2_with (first | (refine wpList_load_mid rfl 38 _ rfl w.heap.size 1 rfl (F.map (Value.int .i64)) _ (cp_range HI.out.box) Tryd.underlying38 rfl (by rw [HZF.out]; exact info68) ?_) | fail)
            refine (recordSteps_any k F true enc _ HF.out rfl (H.out.2.below HI.out.low)).mono ?_
            rintro e w2 ⟨g2, u2, rfl, o2, b2⟩
            have J2 := hide (HI.out.below b2)
            have hsl := stepsL_len Q enc k
            have HO2 := hide (And.intro o2 (o2.mono (show w.heap.size + 1 ≤ wr.heap.size from HI.out.box.lt)))
            have B2 := hide b2
            clear o2 b2
            go_wp2_with (first | (at_builtin; refine wpList_append_own _ rfl (.tmp 40) (.tmp 44) 32 rfl (w.heap.size + 1) 54 i0 (.agg #[.int .i64 0, .int .i64 0, .slice none 0 0]) 3 40 Tryd.underlying32 hi hz0 hz1 hz2 rfl (by decide) _ _ _ rfl J2.out.own.row ⟨g2, 0, none⟩ 2 2 (cellsN [u2, .slice none 0 0] ((recL k enc).map neD)) rfl rfl (fun j x hx => HO2.out.1.row.cells rfl j x hx) (fun x hx => by have h1 := HO2.out.1.dat 0 u2 _ rfl rfl; obtain ⟨a1, c1, rfl⟩ := own_shape h1; simp [cellsN, recL, neD] at hx; rcases hx with rfl | rfl | rfl | rfl | rfl | rfl <;> rfl) (by rw [List.length_map, hsl]; unfold maxLen; omega) (by rw [List.length_map, hsl]; omega) (by have := J2.out.box.lt; omega) ?_; intro v3 w3 o3 g3 _; have I3 := hide (J2.out.grew (S' := stepsL Q enc (k + 1)) (show OwnN w3 (w.heap.size + 1) 54 2 v3 ((stepsL Q enc (k + 1)).map neD) _ from by rw [show (stepsL Q enc (k + 1)).map neD = (stepsL Q enc k).map neD ++ (recL k enc).map neD by simp [stepsL, recsL]]; exact J2.out.own.concat HO2.out.2 (by decide) (fun i j x x' q hx hx' hq e => by have h1 := (HI.out.own.ltN hx hq).2; have h2 := (HO2.out.1.ltN hx' e).1; omega) o3 g3) (Below.refl _ _) g3); clear o3 g3) | fail)
            clear HI J2 HO2 B2
            go_roundw
            case rel => exact ⟨k + 1, _, by omega, by go_num, I3.out⟩
            case measure => simp [intOf]; omega
          · obtain rfl : k = 2 := by omega
            go_wp2
            go_ret2
            first
            | exact ⟨_, _, rfl, HI.out.own.mono (by omega), HI.out.low⟩
            | exact ⟨_, rfl, ⟨_, HI.out.own.mono (by omega)⟩, HI.out.low⟩
            | exact ⟨_, ⟨_, HI.out.own.mono (by omega)⟩, HI.out.low⟩
            | exact ⟨⟨_, HI.out.own.mono (by omega)⟩, HI.out.low⟩
  · subst hr
    obtain ⟨t', x', rfl⟩ := hm'.iface
    have H4 := hide hm'
    clear hm'
    go_wp2_with (go_at_call 18; refine (codeOf_any m _ 7 _ _ H4.out (H.out.1.below K1.out.2)).mono ?_; rintro e w2 ⟨rfl, hb2⟩)
    go_ret2
    first
    | exact ⟨_, _, rfl, OwnN.nil _ _ _ _, K1.out.2.trans (hb2.mono K1.out.2.size)⟩
    | exact ⟨_, rfl, ⟨_, OwnN.nil _ _ _ _⟩, K1.out.2.trans (hb2.mono K1.out.2.size)⟩
    | exact ⟨_, ⟨_, OwnN.nil _ _ _ _⟩, K1.out.2.trans (hb2.mono K1.out.2.size)⟩
    | exact ⟨⟨_, OwnN.nil _ _ _ _⟩, K1.out.2.trans (hb2.mono K1.out.2.size)⟩
end Go.Proofs.YtmmhkjpkidljlaaDoor
