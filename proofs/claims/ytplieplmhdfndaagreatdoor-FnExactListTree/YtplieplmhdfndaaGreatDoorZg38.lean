/- The program's find; endsFault. -/
import Derived.Test.YtplieplmhdfndaaGreatDoorZg34
namespace Go.Proofs.YtplieplmhdfndaaGreatDoor
set_option linter.unusedVariables false
set_option linter.unusedSimpArgs false
open Go.RowKit

def pvK (ps : Array Value) (i : Nat) : Value := ps.getD i undef
theorem OpP.pvk {w : World} {bn : Nat} {L : List Nd} {ps : Array Value} (h : OpP w bn L ps) {i : Nat} (hi : i < L.length) : w.cell? ⟨bn, i, none⟩ = some (pvK ps i) ∧ OpN w (ndAt L i) (pvK ps i) := by
  obtain ⟨p, h1, h2⟩ := h.at_ i hi
  have : pvK ps i = p := by unfold pvK; rw [Array.getD_eq_getD_getElem?, h1]; rfl
  rw [this]
  exact ⟨(h.blk.cell i).trans h1, h2⟩
/-- What find answers. -/
def fiB (zs : List Int) (nm : ByteArray) : Bool := (firstK zs nm (zs.length / 32)).isSome
def fiE (zs : List Int) (nm : ByteArray) : ByteArray × Int × Int := match firstK zs nm (zs.length / 32) with
  | none => (⟨#[]⟩, 0, 0)
  | some k => slotE zs k
theorem results_ct {fn : Func} {p q : Tmp} (h : fn.results = #[.cell p 61, .tmp q]) (tmps : Array Value) (w : World) (g : Nat) (cs : Array Value) (v : Value) (hp : tmps.getD p undef = .pointer (some ⟨g, 0, none⟩)) (hv : tmps.getD q undef = v)
    (hb : Blk w g cs 61) (hs : cs.size = 3) : (results fn tmps).run Tryz.prog w = .ok (.tuple #[.agg cs, v]) w := by
  obtain ⟨c0, c1, c2, rfl⟩ : ∃ c0 c1 c2, cs = #[c0, c1, c2] := by
    obtain ⟨l⟩ := cs
    match l, hs with
    | [a, b, c], _ => exact ⟨a, b, c, rfl⟩
  have k0 := (hb.cell 0).trans (show _ = some c0 from rfl)
  have k1 := (hb.cell 1).trans (show _ = some c1 from rfl)
  have k2 := (hb.cell 2).trans (show _ = some c2 from rfl)
  have hp' : tmps[p]?.getD undef = .pointer (some ⟨g, 0, none⟩) := by rw [← Array.getD_eq_getD_getElem?]; exact hp
  have hv' : tmps[q]?.getD undef = v := by rw [← Array.getD_eq_getD_getElem?]; exact hv
  simp only [results, h]
  go_simp
set_option maxRecDepth 100000 in
set_option maxHeartbeats 4000000 in
theorem find_any (d : Nat) (zs : List Int) (nm : ByteArray) (w : World) (hD : DirR w d zs) (hnm : nm.size ≤ maxLen) :
    Calls Tryz.prog 97 #[.pointer (some ⟨d, 0, none⟩), .string nm] w fun e w' => e = .returned (.tuple #[.agg (entC (fiE zs nm).1 (fiE zs nm).2.1 (fiE zs nm).2.2), .bool (fiB zs nm)]) ∧ Below w.heap.size w w' := by
  obtain ⟨base, mb, nn, v, hdr, _, hok⟩ := hD
  have hL := dirOk_lenQ hok
  obtain ⟨W1, hW1⟩ : ∃ W1, W1 = w.alloc (.cells #[.string ⟨#[]⟩, .int .i64 0, .int .i64 0] 61) := ⟨_, rfl⟩
  have b1 : Below w.heap.size w W1 := by rw [hW1]; exact (Below.refl _ _).alloc (Nat.le_refl _) _
  have K1 := hide (show Blk W1 w.heap.size (entC ⟨#[]⟩ 0 0) 61 from by rw [hW1]; exact Blk.new w _ _)
  have hdr1 := hdr.belowS b1
  have HDr := hide hdr1
  have cM : W1.cell? ⟨d, 1, none⟩ = some (.map (some mb)) := (hdr1.blk.cell 1).trans rfl
  obtain ⟨lc, hlk, hat⟩ := lookK hdr1.map nm hnm
  obtain ⟨es, hes⟩ : ∃ es, entT zs (zs.length / 32) = some es := by
    have h := hok
    unfold dirOk at h
    simp only [Bool.and_eq_true] at h
    exact Option.isSome_iff_exists.1 h.2.2.1
  obtain ⟨hm1, hm2⟩ := map_first Unit nm hes
  rw [hm1] at hlk
  have HB := hide b1
  have HW1 := hide hW1
  clear hdr hok hdr1 hm1 b1 hW1
  cases hf : firstK zs nm (zs.length / 32) with
  | none =>
    have HE := hide (show fiE zs nm = (⟨#[]⟩, 0, 0) ∧ fiB zs nm = false from by unfold fiE fiB; rw [hf]; exact ⟨rfl, rfl⟩)
    rw [hf] at hlk
    have hlk2 : (Instr.lookup 114 (.map (some mb)) (.string nm) true).run Tryz.prog W1 = .ok (.tuple #[.int .i64 lc, .bool false]) W1 := hlk
    rw [HE.out.1, HE.out.2]
    clear hf hlk hat hm2 hes
    go_enter Tryz.func97, Tryz.ntmps97
    go_upto_region 1 with fail
    rw [← HW1.out]
    go_wp2_with (refine wpList_store_row rfl 61 _ _ rfl w.heap.size (entC ⟨#[]⟩ 0 0) rfl rfl 61 _ K1.out infoD3 rfl entC_one ?_)
    refine bodyPost_ret (results_ct rfl _ _ w.heap.size (entC ⟨#[]⟩ 0 0) (.bool false) rfl rfl (K1.out.row _) rfl) rfl ?_
    exact ⟨rfl, below_setRow HB.out (Nat.le_refl _) _⟩
  | some k =>
    have HE := hide (show fiE zs nm = slotE zs k ∧ fiB zs nm = true from by unfold fiE fiB; rw [hf]; exact ⟨rfl, rfl⟩)
    have hlc : lc = (k : Int) := by
      have h1 := hm2 k hf
      rw [hat] at h1
      injection h1 with h1
      injection h1
    rw [hf, hlc] at hlk
    have hlk2 : (Instr.lookup 114 (.map (some mb)) (.string nm) true).run Tryz.prog W1 = .ok (.tuple #[.int .i64 (k : Int), .bool true]) W1 := hlk
    have hkN := (firstK_lt hf).1
    obtain ⟨M, hM⟩ : ∃ M, M = zs.length / 32 := ⟨_, rfl⟩
    obtain ⟨g, cp, rfl, hg1, hg2, hgc⟩ := own_sliceD HDr.out.own (by omega)
    have hcp : M ≤ cp ∧ cp ≤ 9223372036854775807 := by
      rw [hM]
      rcases HDr.out.own.2 with ⟨e4, _⟩ | ⟨g', cp', cur, e4, _, _, hn1, hn2, _⟩
      · cases e4
      · injection e4 with e5 e6 e7
        subst e7
        exact ⟨hn1, hn2⟩
    obtain ⟨se, hse⟩ : ∃ se, se = slotE zs k := ⟨_, rfl⟩
    have HRg := hide (show W1.rangeAt g (k * 3) (entC se.1 se.2.1 se.2.2).toList from by
      intro j u hu
      rw [hse] at hu
      have hL : (slotsL zs (zs.length / 32))[k]? = some (slotE zs k) := by simp [slotsL, hkN]
      have h1 := hgc (k * 3 + j) u (entsI_at hL j u hu)
      rwa [Addr.add_mid, Nat.zero_add] at h1)
    have cE : W1.cell? ⟨d, 0, none⟩ = some (.slice (some ⟨g, 0, none⟩) M cp) := by rw [hM]; exact (HDr.out.blk.cell 0).trans rfl
    have hkI : ¬ ((M : Int) ≤ (k : Int)) := by omega
    have hkJ : (k : Int) < (M : Int) := by omega
    have hkM : k < M := by omega
    rw [HE.out.1, HE.out.2, ← hse]
    clear hf hlk hat hm2 hes hlc hgc hM hkN hL hse HE
    go_enter Tryz.func97, Tryz.ntmps97
    go_upto_region 1 with fail
    rw [← HW1.out]
    go_wp2_with (first | (refine wpList_store_row rfl 61 _ _ rfl w.heap.size (entC se.1 se.2.1 se.2.2) rfl rfl 61 _ K1.out infoD3 rfl entC_one ?_) | (refine wpList_load_mid rfl 61 _ rfl g (k * 3) rfl (entC se.1 se.2.1 se.2.2).toList _ HRg.out Tryz.underlying61 rfl infoD3 ?_))
    refine bodyPost_ret (results_ct rfl _ _ w.heap.size (entC se.1 se.2.1 se.2.2) (.bool true) rfl rfl (K1.out.row _) rfl) rfl ?_
    exact ⟨rfl, below_setRow HB.out (Nat.le_refl _) _⟩
theorem fi_any {zs : List Int} {es : List (ByteArray × Nat × Nat)} (nm : ByteArray) (hes : entT zs (zs.length / 32) = some es) : fiB zs nm = es.any (fun e => e.1.toList == nm.toList) := by
  have h1 := (map_first Unit nm hes).1
  have h2 := mapR_has Unit nm (ks := (List.range (zs.length / 32)).reverse) (es := es) (by rw [entR_range]; exact hes)
  rw [h1] at h2
  exact h2
theorem entN_sm {x : Nd} (hk : x.k = 2) (hok : dirOk x.d = true) : entT x.d (x.d.length / 32) = some (entN x) := by
  unfold entN
  rw [if_pos hk]
  have h1 : (entT x.d (x.d.length / 32)).isSome = true := by
    unfold dirOk at hok
    simp only [Bool.and_eq_true] at hok
    exact hok.2.2.1
  obtain ⟨es, hes⟩ := Option.isSome_iff_exists.1 h1
  rw [hes]; rfl
/-- What endsFault asks. -/
def EdOk (L : List Nd) : Prop := (ndAt L 0).k = 0 ∧ (ndAt L (L.length - 1)).k ≠ 0 ∧ ((ndAt L 1).k = 2 ∧ (ndAt L 1).p = 1) ∧ ∀ e ∈ entN (ndAt L 1), e.1 ≠ snapNm
theorem snap_any {L : List Nd} {es : List (ByteArray × Nat × Nat)} : (es.any (fun e => e.1.toList == snapNm.toList)) = false ↔ ∀ e ∈ es, e.1 ≠ snapNm := by
  rw [List.any_eq_false]
  constructor
  · intro h e he h2
    have := h e he
    rw [h2] at this
    simp at this
  · intro h e he
    have h1 := h e he
    simp only [beq_iff_eq]
    intro h2
    apply h1
    exact (snap_name e.1).1 (by rw [beq_iff_eq, h2, ByteArray.toList_eq]; rfl)
set_option maxRecDepth 100000 in
set_option maxHeartbeats 4000000 in
theorem endsFault_any (bs bn : Nat) (C : Int) (L : List Nd) (ps : Array Value) (w : World) (h : OpS w bs bn C L ps) (hL : 2 ≤ L.length ∧ L.length ≤ 1048576) (hdl : (ndAt L 1).k = 2 → dirOk (ndAt L 1).d = true) :
    Calls Tryz.prog 64 #[.pointer (some ⟨bs, 0, none⟩)] w fun e w' => ∃ ok ev, e = .returned ev ∧ (ok = true ↔ EdOk L) ∧ FaultIs w' w.heap.size ok ev 21 ∧ Below w.heap.size w w' := by
  obtain ⟨N, hN⟩ : ∃ N, N = L.length := ⟨_, rfl⟩
  have HO := hide h
  have HN := hide hN
  have HDL := hide hdl
  rw [← hN] at hL
  have HSL := hide (show ∀ W, Below w.heap.size w W → W.cell? ⟨bs, 1, none⟩ = some (.slice (some ⟨bn, 0, none⟩) N N) from fun W hb => by
    rw [HN.out]
    exact (hb.cell (p := ⟨bs, 1, none⟩) HO.out.st.lt).trans ((HO.out.st.cell 1).trans rfl))
  have HPV := hide (show ∀ W, Below w.heap.size w W → ∀ i, i < N → W.cell? ⟨bn, i, none⟩ = some (pvK ps i) ∧ OpN W (ndAt L i) (pvK ps i) from fun W hb i hi => (HO.out.below hb).nd.pvk (by rw [← HN.out]; exact hi))
  have HPP := hide (show ∀ i, i < N → ∃ q, pvK ps i = .pointer q ∧ (q = none ↔ (ndAt L i).k = 0) from fun i hi => by
    have hop := (HPV.out w (Below.refl _ _) i hi).2
    by_cases hk : (ndAt L i).k = 0
    · exact ⟨none, hop.free hk, by simp [hk]⟩
    · obtain ⟨g, _, _, _, h1, _⟩ := hop.some hk
      exact ⟨_, h1, by simp [hk]⟩)
  clear h hN hdl
  have K1 := hide (Kn.fresh w)
  obtain ⟨W1, hW1⟩ : ∃ W1, W1 = w.alloc (.cells #[.int .i64 21, .nilIface] 127) := ⟨_, rfl⟩
  rw [← hW1] at K1
  have HW1 := hide hW1
  clear hW1
  obtain ⟨q0, hq0, hz0⟩ := HPP.out 0 (by omega)
  obtain ⟨qz, hqz, hzz⟩ := HPP.out (N - 1) (by omega)
  have s1 := HSL.out W1 K1.out.old
  have p0 := (HPV.out W1 K1.out.old 0 (by omega)).1
  rw [hq0] at p0
  have HZ := hide (And.intro hz0 hzz)
  have HQZ := hide (show ∀ W, Below w.heap.size w W → W.cell? ⟨bn, N - 1, none⟩ = some (.pointer qz) from fun W hb => by rw [← hqz]; exact (HPV.out W hb (N - 1) (by omega)).1)
  clear hz0 hzz hq0 hqz
  go_enter Tryz.func64, Tryz.ntmps64
  go_upto_region 2 with fail
  rw [← HW1.out]
  go_wp2_with (go_at_call 86; fail)
  refine (K1.out.need _ _).mono ?_
  rintro e w2 ⟨rfl, k2⟩
  rw [Bool.true_and] at k2
  have K2 := hide k2
  clear k2 s1 p0 HW1 K1
  go_upto_region 3 with fail
  refine wp_region_noPanic ?_
  refine wp_region_held_drew (S := fun w' => Below w.heap.size w w') (by kernel_rfl) K2.out.old.drew (fun hH => ?_)
  refine wpAnyH_take (i := 0) (oi := _) (v := .pointer (some ⟨bs, 0, none⟩)) rfl (by kernel_rfl) (by kernel_rfl) (by kernel_rfl) (fun _ _ _ h => h) (Or.inl ⟨by rfl, fun w' hw' => by go_simp⟩) hH ?_
  try simp only [Act.put, List.getElem_toArray, List.getElem_cons_zero, List.getElem_cons_succ, List.setIfInBounds_toArray, List.set_cons_zero, List.set_cons_succ]
  refine wpAnyH_take (i := 1) (oi := _) (v := .pointer (some ⟨bs, 0, none⟩)) rfl (by kernel_rfl) (by kernel_rfl) (by kernel_rfl) (fun _ _ _ h => h) (Or.inl ⟨by rfl, fun w' hw' => by go_simp⟩) hH ?_
  try simp only [Act.put, List.getElem_toArray, List.getElem_cons_zero, List.getElem_cons_succ, List.setIfInBounds_toArray, List.set_cons_zero, List.set_cons_succ]
  refine wpAnyH_take (i := 2) (oi := _) (v := .pointer (some ⟨bs, 1, none⟩)) rfl (by kernel_rfl) (by kernel_rfl) (by kernel_rfl) (fun _ _ _ h => h) (Or.inl ⟨by rfl, fun w' hw' => by go_simp⟩) hH ?_
  try simp only [Act.put, List.getElem_toArray, List.getElem_cons_zero, List.getElem_cons_succ, List.setIfInBounds_toArray, List.set_cons_zero, List.set_cons_succ]
  refine wpAnyH_take (i := 3) (oi := _) (v := .slice (some ⟨bn, 0, none⟩) N N) rfl (by kernel_rfl) (by kernel_rfl) (by kernel_rfl) (fun _ _ _ h => h) (Or.inl ⟨by rfl, fun w' hw' => by have h9 := HSL.out w' hw'; go_simp⟩) hH ?_
  try simp only [Act.put, List.getElem_toArray, List.getElem_cons_zero, List.getElem_cons_succ, List.setIfInBounds_toArray, List.set_cons_zero, List.set_cons_succ]
  refine wpAnyH_take (i := 4) (oi := _) (v := .pointer (some ⟨bs, 0, none⟩)) rfl (by kernel_rfl) (by kernel_rfl) (by kernel_rfl) (fun _ _ _ h => h) (Or.inl ⟨by rfl, fun w' hw' => by go_simp⟩) hH ?_
  try simp only [Act.put, List.getElem_toArray, List.getElem_cons_zero, List.getElem_cons_succ, List.setIfInBounds_toArray, List.set_cons_zero, List.set_cons_succ]
  refine wpAnyH_take (i := 5) (oi := _) (v := .pointer (some ⟨bs, 0, none⟩)) rfl (by kernel_rfl) (by kernel_rfl) (by kernel_rfl) (fun _ _ _ h => h) (Or.inl ⟨by rfl, fun w' hw' => by go_simp⟩) hH ?_
  try simp only [Act.put, List.getElem_toArray, List.getElem_cons_zero, List.getElem_cons_succ, List.setIfInBounds_toArray, List.set_cons_zero, List.set_cons_succ]
  refine wpAnyH_take (i := 6) (oi := _) (v := .pointer (some ⟨bs, 1, none⟩)) rfl (by kernel_rfl) (by kernel_rfl) (by kernel_rfl) (fun _ _ _ h => h) (Or.inl ⟨by rfl, fun w' hw' => by go_simp⟩) hH ?_
  try simp only [Act.put, List.getElem_toArray, List.getElem_cons_zero, List.getElem_cons_succ, List.setIfInBounds_toArray, List.set_cons_zero, List.set_cons_succ]
  refine wpAnyH_take (i := 7) (oi := _) (v := .slice (some ⟨bn, 0, none⟩) N N) rfl (by kernel_rfl) (by kernel_rfl) (by kernel_rfl) (fun _ _ _ h => h) (Or.inl ⟨by rfl, fun w' hw' => by have h9 := HSL.out w' hw'; go_simp⟩) hH ?_
  try simp only [Act.put, List.getElem_toArray, List.getElem_cons_zero, List.getElem_cons_succ, List.setIfInBounds_toArray, List.set_cons_zero, List.set_cons_succ]
  refine wpAnyH_take (i := 8) (oi := _) (v := .int .i64 (N : Int)) rfl (by kernel_rfl) (by kernel_rfl) (by kernel_rfl) (fun _ _ _ h => h) (Or.inl ⟨by rfl, fun w' hw' => by go_simp⟩) hH ?_
  try simp only [Act.put, List.getElem_toArray, List.getElem_cons_zero, List.getElem_cons_succ, List.setIfInBounds_toArray, List.set_cons_zero, List.set_cons_succ]
  refine wpAnyH_take (i := 9) (oi := _) (v := .int .i64 ((N - 1 : Nat) : Int)) rfl (by kernel_rfl) (by kernel_rfl) (by kernel_rfl) (fun _ _ _ h => h) (Or.inl ⟨by rfl, fun w' hw' => by go_simp; rw [IntKind.wrap_i64]; omega⟩) hH ?_
  try simp only [Act.put, List.getElem_toArray, List.getElem_cons_zero, List.getElem_cons_succ, List.setIfInBounds_toArray, List.set_cons_zero, List.set_cons_succ]
  refine wpAnyH_take (i := 10) (oi := _) (v := .pointer (some ⟨bn, N - 1, none⟩)) rfl (by kernel_rfl) (by kernel_rfl) (by kernel_rfl) (fun _ _ _ h => h) (Or.inl ⟨by rfl, fun w' hw' => by go_simp; intro h9; omega⟩) hH ?_
  try simp only [Act.put, List.getElem_toArray, List.getElem_cons_zero, List.getElem_cons_succ, List.setIfInBounds_toArray, List.set_cons_zero, List.set_cons_succ]
  refine wpAnyH_take (i := 11) (oi := _) (v := .pointer qz) rfl (by kernel_rfl) (by kernel_rfl) (by kernel_rfl) (fun _ _ _ h => h) (Or.inl ⟨by rfl, fun w' hw' => by have h9 := HQZ.out w' hw'; go_simp⟩) hH ?_
  try simp only [Act.put, List.getElem_toArray, List.getElem_cons_zero, List.getElem_cons_succ, List.setIfInBounds_toArray, List.set_cons_zero, List.set_cons_succ]
  refine wpAnyH_take (i := 12) (oi := _) (v := .bool (!qz.isNone)) rfl (by kernel_rfl) (by kernel_rfl) (by kernel_rfl) (fun _ _ _ h => h) (Or.inl ⟨by rfl, fun w' hw' => by go_simp⟩) hH ?_
  try simp only [Act.put, List.getElem_toArray, List.getElem_cons_zero, List.getElem_cons_succ, List.setIfInBounds_toArray, List.set_cons_zero, List.set_cons_succ]
  have KD := hide (K2.out.below ((Below.refl _ _).drew))
  clear hH K2
  refine wpAnyH_ready (rs := [13]) (by kernel_rfl) (by simp) ?_
  refine AllReadyH.cons (o := _) rfl (fun K hK => ?_) AllReadyH.nil
  go_simp
  refine (KD.out.need _ _).mono ?_
  rintro e w3 ⟨rfl, k3⟩
  have K3 := hide k3
  refine hK.out _ _ K3.out.old (fun hH5 => ?_)
  clear hK K hH5 k3 KD
  try simp only [Act.put, List.getElem_toArray, List.getElem_cons_zero, List.getElem_cons_succ, List.setIfInBounds_toArray, List.set_cons_zero, List.set_cons_succ]
  refine wpAnyH_done (by kernel_rfl) (NoPanic.normal ?_) _
  obtain ⟨b0, hb0⟩ : ∃ b0, b0 = (q0.isNone && qz.isSome) := ⟨_, rfl⟩
  rw [← hb0] at K3
  have HB0 := hide (show b0 = true ↔ (ndAt L 0).k = 0 ∧ (ndAt L (L.length - 1)).k ≠ 0 from by
    rw [hb0, ← HN.out, Bool.and_eq_true, ← HZ.out.1, ne_eq, ← HZ.out.2]
    cases q0 <;> cases qz <;> simp)
  clear hb0
  have s3 := HSL.out w3 K3.out.old
  have p1 := (HPV.out w3 K3.out.old 1 (by omega)).1
  have hop1 := (HPV.out w (Below.refl _ _) 1 (by omega)).2
  obtain ⟨q1, hq1, hz1⟩ := HPP.out 1 (by omega)
  rw [hq1] at p1 hop1
  have HO1 := hide hop1
  obtain ⟨x, hx⟩ : ∃ x, x = ndAt L 1 := ⟨_, rfl⟩
  rw [← hx] at HO1 HDL hz1
  have HX := hide hx
  have HED := hide (show EdOk L ↔ b0 = true ∧ (x.k = 2 ∧ x.p = 1) ∧ ∀ e ∈ entN x, e.1 ≠ snapNm from by
    unfold EdOk
    rw [HB0.out, ← hx]
    constructor
    · rintro ⟨h1, h2, h3, h4⟩
      exact ⟨⟨h1, h2⟩, h3, h4⟩
    · rintro ⟨⟨h1, h2⟩, h3, h4⟩
      exact ⟨h1, h2, h3, h4⟩)
  clear hop1 hq1 hx
  by_cases hk0 : x.k = 0
  · obtain rfl := hz1.2 hk0
    have HNO := hide (show ¬ EdOk L from fun h => by have := (HED.out.1 h).2.1.1; omega)
    clear hk0 hz1
    go_wp2_with (go_at_call 86; fail)
    refine (K3.out.need _ _).mono ?_
    rintro e w4 ⟨rfl, k4⟩
    rw [Bool.and_false] at k4
    obtain ⟨ev4, ce4, hf4⟩ := k4.fault
    rcases hf4 with ⟨h9, _⟩ | ⟨_, n4, hF4⟩
    · cases h9
    obtain ⟨t4, x4, rfl⟩ := hF4.iface
    have HF4 := hide (And.intro hF4 k4.old)
    clear hF4 k4
    go_wp2
    go_ret
    exact ⟨false, _, rfl, ⟨fun h => (by cases h), fun h => absurd h HNO.out⟩, .inr ⟨rfl, n4, HF4.out.1⟩, HF4.out.2⟩
  obtain ⟨g, na, nc, dp, hpe, hblk, _, _, hd1, hd2⟩ := HO1.out.some hk0
  cases hpe
  have hbk3 := hblk.below K3.out.old hblk.lt
  have g10 := (hbk3.cell 10).trans (show _ = some (.pointer dp) from rfl)
  have g5 := (hbk3.cell 5).trans (show _ = some (.int .i64 x.p) from rfl)
  clear hbk3
  by_cases hk2 : x.k = 2
  rotate_left
  · obtain rfl := hd1 hk2
    have HNO := hide (show ¬ EdOk L from fun h => hk2 (HED.out.1 h).2.1.1)
    clear hk0 hk2 hz1 hd1 hd2 hblk
    go_wp2_with (go_at_call 86; fail)
    refine (K3.out.need _ _).mono ?_
    rintro e w4 ⟨rfl, k4⟩
    rw [Bool.and_false] at k4
    obtain ⟨ev4, ce4, hf4⟩ := k4.fault
    rcases hf4 with ⟨h9, _⟩ | ⟨_, n4, hF4⟩
    · cases h9
    obtain ⟨t4, x4, rfl⟩ := hF4.iface
    have HF4 := hide (And.intro hF4 k4.old)
    clear hF4 k4
    go_wp2
    go_ret
    exact ⟨false, _, rfl, ⟨fun h => (by cases h), fun h => absurd h HNO.out⟩, .inr ⟨rfl, n4, HF4.out.1⟩, HF4.out.2⟩
  obtain ⟨d, rfl, hDR⟩ := hd2 hk2
  by_cases hp1 : x.p = 1
  rotate_left
  · have hpb : (x.p == 1) = false := by simpa using hp1
    have HNO := hide (show ¬ EdOk L from fun h => hp1 (HED.out.1 h).2.1.2)
    clear hk0 hk2 hz1 hd1 hd2 hblk hDR hp1
    go_wp2_with (go_at_call 86; fail)
    refine (K3.out.need _ _).mono ?_
    rintro e w4 ⟨rfl, k4⟩
    rw [Bool.and_false] at k4
    obtain ⟨ev4, ce4, hf4⟩ := k4.fault
    rcases hf4 with ⟨h9, _⟩ | ⟨_, n4, hF4⟩
    · cases h9
    obtain ⟨t4, x4, rfl⟩ := hF4.iface
    have HF4 := hide (And.intro hF4 k4.old)
    clear hF4 k4
    go_wp2
    go_ret
    exact ⟨false, _, rfl, ⟨fun h => (by cases h), fun h => absurd h HNO.out⟩, .inr ⟨rfl, n4, HF4.out.1⟩, HF4.out.2⟩
  have hpb : (x.p == 1) = true := by simp [hp1]
  have HES := hide (entN_sm hk2 (HDL.out hk2))
  have HDR := hide hDR
  have HBK := hide hblk
  have HED2 := hide (show EdOk L ↔ b0 = true ∧ ∀ e ∈ entN x, e.1 ≠ snapNm from by
    rw [HED.out]
    exact ⟨fun h => ⟨h.1, h.2.2⟩, fun h => ⟨h.1, ⟨hk2, hp1⟩, h.2⟩⟩)
  clear hk0 hk2 hz1 hd1 hd2 hblk hDR hp1
  go_wp2_with (go_at_call 86; fail)
  refine (K3.out.need _ _).mono ?_
  rintro e w4 ⟨rfl, k4⟩
  rw [Bool.and_true] at k4
  have K4 := hide k4
  clear k4 s3 p1 g10 g5 hpb
  obtain ⟨ev4, ce4, hf4⟩ := K4.out.fault
  cases b0 with
  | false =>
    rcases hf4 with ⟨h9, _⟩ | ⟨_, n4, hF4⟩
    · cases h9
    obtain ⟨t4, x4, rfl⟩ := hF4.iface
    have HF4 := hide hF4
    have HNO := hide (show ¬ EdOk L from fun h => by have := (HED2.out.1 h).1; cases this)
    clear hF4
    go_wp2
    go_ret
    exact ⟨false, _, rfl, ⟨fun h => (by cases h), fun h => absurd h HNO.out⟩, .inr ⟨rfl, n4, HF4.out⟩, K4.out.old⟩
  | true =>
    rcases hf4 with ⟨_, rfl⟩ | ⟨h9, _⟩
    case inr => cases h9
    have g10 := ((HBK.out.below K4.out.old HBK.out.lt).cell 10).trans (show _ = some (.pointer (some ⟨d, 0, none⟩)) from rfl)
    go_wp2_with (go_at_call 97; fail)
    refine (find_any d x.d snapNm w4 (HDR.out.below K4.out.old) (by unfold snapNm maxLen; decide)).mono ?_
    rintro e w5 ⟨rfl, b5⟩
    obtain ⟨fa, fb, fc, hfe⟩ : ∃ fa fb fc, fiE x.d snapNm = (fa, fb, fc) := ⟨_, _, _, rfl⟩
    rw [hfe]
    have K5 := hide ((K4.out.below b5).below ((Below.refl _ _).alloc (Nat.le_refl _) (.cells #[.string fa, .int .i64 fb, .int .i64 fc] 61)))
    obtain ⟨fo, hfo⟩ : ∃ fo, fo = fiB x.d snapNm := ⟨_, rfl⟩
    rw [← hfo]
    have HFO := hide (show (!fo) = true ↔ EdOk L from by
      rw [HED2.out, hfo, fi_any snapNm HES.out, Bool.not_eq_true', snap_any (L := L)]
      simp)
    clear b5 ce4 g10 hfe hfo
    unfold entC
    go_wp2_with (go_at_call 86; fail)
    refine (K5.out.need _ (!fo)).mono ?_
    rintro e w6 ⟨rfl, k6⟩
    rw [Bool.true_and] at k6
    obtain ⟨ev6, ce6, hf6⟩ := k6.fault
    have HF6 := hide (And.intro hf6 k6.old)
    clear hf6 k6
    go_wp2
    go_ret
    exact ⟨!fo, _, rfl, HFO.out, HF6.out.1, HF6.out.2⟩
end Go.Proofs.YtplieplmhdfndaaGreatDoor
