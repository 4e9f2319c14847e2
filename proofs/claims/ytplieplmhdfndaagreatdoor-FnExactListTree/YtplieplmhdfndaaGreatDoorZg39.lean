/- The program's openState and StateCheck. MayAccess of the program and of the model: the three bits of the mode that count. -/
import Derived.Test.YtplieplmhdfndaaGreatDoorZg37
import Derived.Test.YtplieplmhdfndaaGreatDoorZg38
import Derived.Deep.OwnRows
import Derived.BigQuiet
import Derived.Deep.QuietTactic
import Derived.Test.YtplieplmhdfndaaGreatDoorZg01
import Derived.Test.YtplieplmhdfndaaGreatDoorZg05
import Derived.Test.YtplieplmhdfndaaGreatDoorZg02
namespace Go.Proofs.YtplieplmhdfndaaGreatDoor
set_option linter.unusedVariables false
set_option linter.unusedSimpArgs false
open Go.RowKit

def dkA (L : List Nd) : Nat → Bool
  | 0 => true
  | k + 1 => dkA L k && dkB (ndAt L k)
theorem dkA_iff (L : List Nd) : ∀ k, dkA L k = true ↔ ∀ i, i < k → dkB (ndAt L i) = true
  | 0 => by simp [dkA]
  | k + 1 => by
    unfold dkA
    rw [Bool.and_eq_true, dkA_iff L k]
    constructor
    · rintro ⟨h1, h2⟩ i hi
      rcases Nat.lt_or_ge i k with h | h
      · exact h1 i h
      · have : i = k := by omega
        subst this; exact h2
    · intro h
      exact ⟨fun i hi => h i (by omega), h k (by omega)⟩
theorem dkB_iff (x : Nd) : dkB x = true ↔ (x.k = 2 → dirOk x.d = true) := by
  unfold dkB
  by_cases h : x.k = 2 <;> simp [h]
theorem prS_parts (C : Int) (L : List Nd) : PrS C L ↔ nsB C L = true ∧ dkA L L.length = true ∧ EdOk L ∧ EnOk L := by
  unfold nsB EdOk EnOk
  rw [Bool.and_eq_true, Bool.and_eq_true, Bool.and_eq_true, allN_iff, dkA_iff, lnB_iff]
  constructor
  · intro h
    refine ⟨⟨⟨⟨?_, ?_⟩, h.node⟩, ?_⟩, fun i hi => (dkB_iff _).2 (h.dirs i hi), ⟨h.zero, h.last, h.root, h.snap⟩, h.may, fun i hi => ⟨h.links i hi, h.names i hi⟩, h.reach⟩
    · have := h.clock; simp [wi, this.1, this.2]
    · have := h.len; simp [wi]; omega
    · have := h.tot; simp [wi]; omega
  · rintro ⟨⟨⟨⟨h1, h2⟩, h3⟩, h4⟩, h5, ⟨h6, h7, h8, h9⟩, h10, h11, h12⟩
    have h2' := wi_true h2
    have h4' := wi_true h4
    exact ⟨wi_true h1, by omega, h3, by omega, fun i hi => (dkB_iff _).1 (h5 i hi), h6, h7, h8, h9, h10, fun i hi => (h11 i hi).1, fun i hi => (h11 i hi).2, h12⟩
theorem infoStP : (Tryz.prog.info? 29).map (·.size) = some 2 := by kernel_rfl
theorem infoPnL : (Tryz.prog.info? 82).map (fun i => (i.zero, i.size, i.bytes)) = some (some (.pointer none), 1, 8) := by kernel_rfl
/-- While the nodes are opened. -/
structure OsI (C : Int) (L : List Nd) (vs : List Value) (W0 : World) (Bs Bn lo k : Nat) (ok : Bool) (ps : Array Value) (wr : World) : Prop where
  kn : Kn W0 wr ok
  st : Blk wr Bs #[.int .i64 C, .slice (some ⟨Bn, 0, none⟩) L.length L.length] 85
  nd : Blk wr Bn ps 82
  sz : ps.size = L.length
  pt : ∀ (i : Nat) (u : Value), ps[i]? = some u → ∃ q, u = .pointer q
  at_ : ∀ i, i < k → dkB (ndAt L i) = true → ∃ p, ps[i]? = some p ∧ OpB lo wr (ndAt L i) (vs.getD i undef) p
  lt : W0.heap.size < Bn ∧ Bn < Bs ∧ Bs < lo ∧ lo ≤ wr.heap.size
theorem OsI.below {C : Int} {L : List Nd} {vs : List Value} {W0 wr w' : World} {Bs Bn lo k : Nat} {ok : Bool} {ps : Array Value} (h : OsI C L vs W0 Bs Bn lo k ok ps wr) (hb : Below wr.heap.size wr w') : OsI C L vs W0 Bs Bn lo k ok ps w' :=
  ⟨h.kn.below hb, h.st.below hb h.st.lt, h.nd.below hb h.nd.lt, h.sz, h.pt, fun i hi hd => by obtain ⟨p, h1, h2⟩ := h.at_ i hi hd; exact ⟨p, h1, h2.keepF (fun j _ hj => hb.block j hj)⟩, ⟨h.lt.1, h.lt.2.1, h.lt.2.2.1, Nat.le_trans h.lt.2.2.2 hb.size⟩⟩
theorem OsI.tch {C : Int} {L : List Nd} {vs : List Value} {W0 wr w' : World} {Bs Bn lo k : Nat} {ok ok' : Bool} {ps : Array Value} (h : OsI C L vs W0 Bs Bn lo k ok ps wr) (hc : Ck w' W0.heap.size (W0.heap.size + 1) 21 ok') (ht : Tch W0.heap.size wr w') : OsI C L vs W0 Bs Bn lo k ok' ps w' := by
  have hl := h.lt
  have hk : ∀ j, j ≠ W0.heap.size → j < wr.heap.size → w'.heap[j]? = wr.heap[j]? := fun j hj hjl => ht.1.block j hjl (by simp; omega)
  exact ⟨h.kn.tch hc ht, (hk _ (by omega) h.st.lt).trans h.st, (hk _ (by omega) h.nd.lt).trans h.nd, h.sz, h.pt, fun i hi hd => by obtain ⟨p, h1, h2⟩ := h.at_ i hi hd; exact ⟨p, h1, h2.keepF (fun j hj hjl => hk j (by omega) hjl)⟩, ⟨hl.1, hl.2.1, hl.2.2.1, Nat.le_trans hl.2.2.2 ht.1.size⟩⟩
theorem Flt.storeP {w : World} {lo b j : Nat} {x : Value} (hy : ∀ o u, w.cell? ⟨b, o, none⟩ = some u → ∃ q, u = .pointer q) : ∀ {n : Nat} {v : Value} {c : Int}, Flt w lo n v c → Flt (w.setCell ⟨b, j, none⟩ x) lo n v c
  | 0, _, _, ⟨b', h, hl, hc⟩ => ⟨b', h, hl, (World.cell?_setCell_other _ _ _ _ (by
      intro e
      injection e with e1 e2
      subst e1
      obtain ⟨q, hq⟩ := hy _ _ hc
      cases hq)).trans hc⟩
  | n + 1, _, _, ⟨b', v', h, hl, hc, hr⟩ => by
    refine ⟨b', v', h, hl, (World.cell?_setCell_other _ _ _ _ ?_).trans hc, Flt.storeP hy hr⟩
    intro e
    injection e with e1 e2
    subst e1
    obtain ⟨q, hq⟩ := hy _ _ hc
    obtain ⟨t', x', hx⟩ := hr.iface
    rw [hx] at hq
    cases hq
theorem Kn.storeP {w wr : World} {ok : Bool} (h : Kn w wr ok) {b j : Nat} (u : Value) (hb : w.heap.size < b) (hy : ∀ o u, wr.cell? ⟨b, o, none⟩ = some u → ∃ q, u = .pointer q) : Kn w (wr.setCell ⟨b, j, none⟩ u) ok := by
  have hk : (wr.setCell ⟨b, j, none⟩ u).heap[w.heap.size]? = wr.heap[w.heap.size]? := Below.heap_setCell wr ⟨b, j, none⟩ _ _ (by show w.heap.size ≠ b; omega)
  refine ⟨?_, h.old.setCell (p := ⟨b, j, none⟩) (show w.heap.size ≤ b by omega) _⟩
  obtain ⟨h1, h2, ev, h3, h4⟩ := h.ck
  refine ⟨(World.cell?_of_block (a := ⟨w.heap.size, 0, none⟩) hk).trans h1, (World.frozen?_of_block (a := ⟨w.heap.size, 1, none⟩) hk).trans h2, ev, (World.cell?_of_block (a := ⟨w.heap.size, 1, none⟩) hk).trans h3, ?_⟩
  rcases h4 with h4 | ⟨h4, n, h5⟩
  · exact .inl h4
  · exact .inr ⟨h4, n, h5.storeP hy⟩
theorem OsI.put {C : Int} {L : List Nd} {vs : List Value} {W0 wr : World} {Bs Bn lo k : Nat} {ok : Bool} {ps : Array Value} {pa : Option Addr} (h : OsI C L vs W0 Bs Bn lo k ok ps wr) (hk : k < L.length) (hp : dkB (ndAt L k) = true → OpB lo wr (ndAt L k) (vs.getD k undef) (.pointer pa)) : OsI C L vs W0 Bs Bn lo (k + 1) ok (ps.setIfInBounds k (.pointer pa)) (wr.setCell ⟨Bn, k, none⟩ (.pointer pa)) := by
  have hl := h.lt
  have hkp : ∀ j, j ≠ Bn → (wr.setCell ⟨Bn, k, none⟩ (.pointer pa)).heap[j]? = wr.heap[j]? := fun j hj => Below.heap_setCell wr ⟨Bn, k, none⟩ _ j hj
  have hF : ∀ {x : Nd} {dv p : Value}, OpB lo wr x dv p → OpB lo (wr.setCell ⟨Bn, k, none⟩ (.pointer pa)) x dv p := fun hb => hb.keepF (fun j hj _ => hkp j (by omega))
  refine ⟨h.kn.storeP _ hl.1 (fun o u hu => ?_), (hkp _ (by omega)).trans h.st, h.nd.set k _, by simpa using h.sz, fun i u hu => ?_, fun i hi hd => ?_, ⟨hl.1, hl.2.1, hl.2.2.1, by simpa using hl.2.2.2⟩⟩
  · rw [h.nd.cell o] at hu
    exact h.pt o u hu
  · rw [Array.getElem?_setIfInBounds] at hu
    by_cases e : k = i
    · rw [if_pos e, if_pos (by rw [h.sz]; exact hk)] at hu
      exact ⟨pa, (Option.some.inj hu).symm⟩
    · rw [if_neg e] at hu
      exact h.pt i u hu
  · rcases Nat.lt_or_ge i k with h1 | h1
    · obtain ⟨p, h2, h3⟩ := h.at_ i h1 hd
      exact ⟨p, by rw [Array.getElem?_setIfInBounds, if_neg (by omega)]; exact h2, hF h3⟩
    · have : i = k := by omega
      subst this
      exact ⟨_, by rw [Array.getElem?_setIfInBounds, if_pos rfl, if_pos (by rw [h.sz]; exact hk)], hF (hp hd)⟩
/-- What openState answers. -/
def OsR (C : Int) (L : List Nd) (w w' : World) (e : Ending) : Prop := ∃ pa ok ev, e = .returned (.tuple #[.pointer pa, ev]) ∧ (ok = true ↔ RightS C L) ∧ FaultIs w' w.heap.size ok ev 21 ∧ Below w.heap.size w w' ∧ (ok = true → ∃ bs bn ps, pa = some ⟨bs, 0, none⟩ ∧ OpS w' bs bn C L ps)
set_option maxRecDepth 100000 in
set_option maxHeartbeats 8000000 in
theorem openState_any (C : Int) (v : Value) (L : List Nd) (vs : List Value) (w : World) (h : RdN w 9 v (L.map ndE) vs) (hT : totN L ≤ 1099511627776) (hL : L.length ≤ 1048576) (hbd : ∀ i, i < L.length → ∀ z ∈ (ndAt L i).d, 0 ≤ z ∧ z < 256) (hnil : NilV vs) :
    Calls Tryz.prog 35 #[.agg #[.int .i64 C, v]] w fun e w' => OsR C L w w' e := by
  obtain ⟨a, cap, rfl, _⟩ := h.row
  rw [List.length_map] at h ⊢
  obtain ⟨N, hN⟩ : ∃ N, N = L.length := ⟨_, rfl⟩
  rw [← hN] at h hL ⊢
  have HN := hide hN
  have HR := hide h
  have HBD := hide hbd
  have HNIL := hide hnil
  have HTT := hide hT
  have HPR := hide ((prS_iff C L).symm.trans (prS_parts C L))
  clear hN h hbd hnil hT
  obtain ⟨W0, hW0⟩ : ∃ W0, W0 = w.alloc (.cells #[.int .i64 C, .slice a N cap] 29) := ⟨_, rfl⟩
  have b0 : Below w.heap.size w W0 := by rw [hW0]; exact (Below.refl _ _).alloc (Nat.le_refl _) _
  have HS := hide (show w.heap.size + 1 = W0.heap.size from by rw [hW0]; simp)
  have k0 : Blk W0 w.heap.size #[.int .i64 C, .slice a N cap] 29 := by rw [hW0]; exact Blk.new w _ _
  have HST := hide (show ∀ W, Below W0.heap.size W0 W → Blk W w.heap.size #[.int .i64 C, .slice a N cap] 29 ∧ RdN W 9 (.slice a N cap) (L.map ndE) vs ∧ Below w.heap.size w W from fun W hb =>
    ⟨k0.below hb k0.lt, HR.out.below (b0.trans (hb.mono b0.size)), b0.trans (hb.mono b0.size)⟩)
  have K1 := hide (Kn.fresh W0)
  obtain ⟨W1, hW1⟩ : ∃ W1, W1 = W0.alloc (.cells #[.int .i64 21, .nilIface] 127) := ⟨_, rfl⟩
  rw [← hW1] at K1
  have HW1 := hide hW1
  have HW0 := hide hW0
  obtain ⟨cc, hcc⟩ : ∃ cc, cc = w.heap.size + 1 := ⟨_, rfl⟩
  have HCC := hide (show cc = W0.heap.size from by rw [hcc]; exact HS.out)
  have HC1 := hide hcc
  clear hW1 hW0 b0 k0 hcc
  go_enter Tryz.func35, Tryz.ntmps35
  go_upto_region 2 with fail
  rw [← HW0.out, ← HC1.out]
  rw [← HW1.out]
  clear HW0 HW1 HC1
  have HBk := hide (HST.out W1 K1.out.old).1
  go_wp2_with (first | (refine wpList_load_row rfl 29 _ rfl w.heap.size rfl 29 #[.int .i64 C, .slice a N cap] (0, 0) _ HBk.out Tryz.underlying29 rfl infoStP ?_) | (go_at_call 62; fail))
  refine (nodesFault_any C (.slice a N cap) L vs W1 (HST.out W1 K1.out.old).2.1 HTT.out (by rw [← HN.out]; exact hL) HBD.out HNIL.out).mono ?_
  rintro e w2 ⟨ev2, rfl, hf2, b2⟩
  have HI2 := hide (fun place => K1.out.insideC HCC.out b2 hf2 place)
  clear hf2 b2 HBk
  go_wp2_with (go_at_call 61; fail)
  refine (HI2.out _).mono ?_
  rintro e w3 ⟨rfl, k3⟩
  rw [Bool.true_and] at k3
  have K3 := hide k3
  clear k3 HI2
  obtain ⟨ev3, ce3, hf3⟩ := K3.out.faultC HCC.out
  cases hns : nsB C L with
  | false =>
    rw [hns] at hf3
    rcases hf3 with ⟨h9, _⟩ | ⟨_, n3, hF3⟩
    · cases h9
    obtain ⟨t3, x3, rfl⟩ := hF3.iface
    have HF3 := hide hF3
    have HNO := hide (show ¬ RightS C L from fun h => by have := (HPR.out.1 h).1; rw [hns] at this; cases this)
    clear hF3 hns
    go_upto_region 4 with fail
    go_quiet (fail)
    go_wp2_with fail
    refine bodyPost_ret (results_tmp2 rfl _ _ _) rfl ?_
    have hbd := Go.below_drewN (Below.refl w3.heap.size w3) nq
    exact ⟨none, false, _, rfl, ⟨fun h => (by cases h), fun h => absurd h HNO.out⟩, .inr ⟨rfl, n3, (HF3.out.below hbd).mono (by have := HS.out; omega)⟩, (HST.out w3 K3.out.old).2.2.trans (hbd.mono (HST.out w3 K3.out.old).2.2.size), fun h => (by cases h)⟩
  | true =>
    rw [hns] at hf3 K3
    rcases hf3 with ⟨_, rfl⟩ | ⟨h9, _⟩
    case inr => cases h9
    have HNS := hide hns
    have hNn : 2 ≤ N ∧ N ≤ 1001 := by
      have h1 := hns
      unfold nsB at h1
      simp only [Bool.and_eq_true] at h1
      have h2 := wi_true h1.1.1.2
      rw [← HN.out] at h2
      omega
    clear hns
    go_upto_region 5 with fail
    refine wp_region_noPanic ?_
    refine wp_region_held_drew (S := fun w' => Below W0.heap.size W0 w') (by kernel_rfl) (K3.out.old.drew) (fun hH => ?_)
    refine wpAnyH_take (i := 0) (oi := _) (v := .pointer (some ⟨w.heap.size, 0, none⟩)) rfl (by kernel_rfl) (by kernel_rfl) (by kernel_rfl) (fun _ _ _ h => h) (Or.inl ⟨by rfl, fun w' hw' => by go_simp⟩) hH ?_
    try simp only [Act.put, List.getElem_toArray, List.getElem_cons_zero, List.getElem_cons_succ, List.setIfInBounds_toArray, List.set_cons_zero, List.set_cons_succ]
    refine wpAnyH_take (i := 1) (oi := _) (v := .int .i64 C) rfl (by kernel_rfl) (by kernel_rfl) (by kernel_rfl) (fun _ _ _ h => h) (Or.inl ⟨by rfl, fun w' hw' => by have h9 := (((HST.out w' hw').1).cell 0).trans (show _ = some (.int .i64 C) from rfl); go_simp⟩) hH ?_
    try simp only [Act.put, List.getElem_toArray, List.getElem_cons_zero, List.getElem_cons_succ, List.setIfInBounds_toArray, List.set_cons_zero, List.set_cons_succ]
    refine wpAnyH_take (i := 2) (oi := _) (v := .pointer (some ⟨w.heap.size, 1, none⟩)) rfl (by kernel_rfl) (by kernel_rfl) (by kernel_rfl) (fun _ _ _ h => h) (Or.inl ⟨by rfl, fun w' hw' => by go_simp⟩) hH ?_
    try simp only [Act.put, List.getElem_toArray, List.getElem_cons_zero, List.getElem_cons_succ, List.setIfInBounds_toArray, List.set_cons_zero, List.set_cons_succ]
    refine wpAnyH_take (i := 3) (oi := _) (v := .slice a N cap) rfl (by kernel_rfl) (by kernel_rfl) (by kernel_rfl) (fun _ _ _ h => h) (Or.inl ⟨by rfl, fun w' hw' => by have h9 := (((HST.out w' hw').1).cell 1).trans (show _ = some (.slice a N cap) from rfl); go_simp⟩) hH ?_
    try simp only [Act.put, List.getElem_toArray, List.getElem_cons_zero, List.getElem_cons_succ, List.setIfInBounds_toArray, List.set_cons_zero, List.set_cons_succ]
    refine wpAnyH_take (i := 4) (oi := _) (v := .int .i64 (N : Int)) rfl (by kernel_rfl) (by kernel_rfl) (by kernel_rfl) (fun _ _ _ h => h) (Or.inl ⟨by rfl, fun w' hw' => by go_simp⟩) hH ?_
    try simp only [Act.put, List.getElem_toArray, List.getElem_cons_zero, List.getElem_cons_succ, List.setIfInBounds_toArray, List.set_cons_zero, List.set_cons_succ]
    have KD := hide (K3.out.below ((Below.refl _ _).drew))
    clear hH ce3
    obtain ⟨Wd, hWd⟩ : ∃ Wd, Wd = w3.drew := ⟨_, rfl⟩
    rw [← hWd] at KD ⊢
    clear hWd
    have hmk := run_make_row' (P := Tryz.prog) 83 82 (.pointer none) 8 Tryz.underlying83 infoPnL rfl .i64 .i64 N (by omega) (by omega) Wd
    obtain ⟨P0, hP0⟩ : ∃ P0, P0 = madeCells #[Value.pointer none] N := ⟨_, rfl⟩
    rw [← hP0] at hmk
    have HP0 := hide (show P0.size = N ∧ ∀ (i : Nat) (u : Value), P0[i]? = some u → ∃ q, u = .pointer q from by
      rw [hP0]
      refine ⟨size_madeCells _ _, fun i u hu => ?_⟩
      rw [← Array.getElem?_toList, toList_madeCells_one] at hu
      have := List.getElem?_replicate (a := Value.pointer none) (n := N) (i := i)
      rw [this] at hu
      split at hu
      · exact ⟨none, (Option.some.inj hu).symm⟩
      · cases hu)
    clear hP0
    obtain ⟨We, hWe⟩ : ∃ We, We = Wd.alloc (.cells P0 82) := ⟨_, rfl⟩
    have be : Below Wd.heap.size Wd We := by rw [hWe]; exact (Below.refl _ _).alloc (Nat.le_refl _) _
    have KE := hide (KD.out.below be)
    obtain ⟨Bn, hBn⟩ : ∃ Bn, Bn = Wd.heap.size := ⟨_, rfl⟩
    have HWe := hide hWe
    have HBn := hide hBn
    have HBe := hide be
    clear hWe hBn be
    refine wpAnyH_ready (rs := [5]) (by kernel_rfl) (by simp) ?_
    refine AllReadyH.cons (o := _) rfl (fun K hK => ?_) AllReadyH.nil
    go_simp
    rw [← HWe.out, ← HBn.out]
    refine hK.out _ _ KE.out.old (fun hH => ?_)
    clear hK K hmk
    try simp only [Act.put, List.getElem_toArray, List.getElem_cons_zero, List.getElem_cons_succ, List.setIfInBounds_toArray, List.set_cons_zero, List.set_cons_succ]
    refine wpAnyH_take (i := 6) (oi := _) (v := .agg #[.int .i64 C, .slice (some ⟨Bn, 0, none⟩) N N]) rfl (by kernel_rfl) (by kernel_rfl) (by kernel_rfl) (fun _ _ _ h => h) (Or.inl ⟨by rfl, fun w' hw' => by go_simp⟩) hH ?_
    try simp only [Act.put, List.getElem_toArray, List.getElem_cons_zero, List.getElem_cons_succ, List.setIfInBounds_toArray, List.set_cons_zero, List.set_cons_succ]
    obtain ⟨Wf, hWf⟩ : ∃ Wf, Wf = We.alloc (.cells #[.int .i64 C, .slice (some ⟨Bn, 0, none⟩) N N] 85) := ⟨_, rfl⟩
    have bf : Below We.heap.size We Wf := by rw [hWf]; exact (Below.refl _ _).alloc (Nat.le_refl _) _
    have KF := hide (KE.out.below bf)
    obtain ⟨Bs, hBs⟩ : ∃ Bs, Bs = We.heap.size := ⟨_, rfl⟩
    have HWf := hide hWf
    have HBs := hide hBs
    clear hH hWf hBs bf
    refine wpAnyH_ready (rs := [7]) (by kernel_rfl) (by simp) ?_
    refine AllReadyH.cons (o := _) rfl (fun K hK => ?_) AllReadyH.nil
    go_simp
    rw [← HWf.out, ← HBs.out]
    refine hK.out _ _ KF.out.old (fun hH => ?_)
    clear hK K
    try simp only [Act.put, List.getElem_toArray, List.getElem_cons_zero, List.getElem_cons_succ, List.setIfInBounds_toArray, List.set_cons_zero, List.set_cons_succ]
    refine wpAnyH_take (i := 8) (oi := _) (v := .pointer (some ⟨Bs, 0, none⟩)) rfl (by kernel_rfl) (by kernel_rfl) (by kernel_rfl) (fun _ _ _ h => h) (Or.inl ⟨by rfl, fun w' hw' => by go_simp⟩) hH ?_
    try simp only [Act.put, List.getElem_toArray, List.getElem_cons_zero, List.getElem_cons_succ, List.setIfInBounds_toArray, List.set_cons_zero, List.set_cons_succ]
    clear hH
    refine wpAnyH_done (by kernel_rfl) (NoPanic.normal ?_) _
    have IO := hide (show OsI C L vs W0 Bs Bn Wf.heap.size 0 true P0 Wf from by
      have hWe := HWe.out
      have hBn := HBn.out
      have hWf := HWf.out
      have hBs := HBs.out
      have hse : We.heap.size = Wd.heap.size + 1 := by rw [hWe]; simp
      have hsf : Wf.heap.size = We.heap.size + 1 := by rw [hWf]; simp
      have hld := KD.out.lo
      refine ⟨KF.out, ?_, ?_, by rw [← HN.out]; exact HP0.out.1, HP0.out.2, fun i hi => by omega, ?_⟩
      · rw [hBs, hWf, ← HN.out]; exact Blk.new We _ _
      · rw [hWf, hBn]
        have := (Blk.new Wd P0 82).alloc (.cells #[.int .i64 C, .slice (some ⟨Bn, 0, none⟩) N N] 85)
        rw [← hWe, ← hBn] at this
        rw [← hBn]
        exact this
      · rw [hBs, hBn]
        omega)
    clear HWe HBe HBn HWf HBs KD KE KF K3
    have HBk := hide (HST.out Wf IO.out.kn.old).1
    have f1 := (HBk.out.cell 1).trans (show _ = some (.slice a N cap) from rfl)
    obtain ⟨lo, hlo⟩ : ∃ lo, lo = Wf.heap.size := ⟨_, rfl⟩
    rw [← hlo] at IO
    clear hlo
    go_wp2_with fail
    clear f1 HBk
    go_loopw [30] (fun iv wr => ∃ k : Nat, k ≤ N ∧ iv = .int .i64 (k : Int) ∧ Hid (∃ ps, OsI C L vs W0 Bs Bn lo k (dkA L k) ps wr)) (fun iv _ => N - (intOf iv).toNat)
    case atStart => exact ⟨0, Nat.zero_le _, rfl, hide ⟨P0, IO.out⟩⟩
    case round =>
      obtain ⟨k, hk, rfl, HE⟩ := hrel
      obtain ⟨ps, hI⟩ := HE.out
      have HI := hide hI
      clear hI HE
      by_cases hlt : k < N
      · have hkl : k < L.length := by rw [← HN.out]; exact hlt
        have hfr := HST.out wr HI.out.kn.old
        obtain ⟨b, off, cap', na, nc, e0, hb, hr, hvi, hrange⟩ := node_at hfr.2.1 (i := k) hkl
        injection e0 with e1 e2 e3
        subst e1 e3
        obtain ⟨x, hx⟩ : ∃ x, x = ndAt L k := ⟨_, rfl⟩
        have hvd : vs.getD k undef = .slice na (ndAt L k).d.length nc := by rw [List.getD_eq_getElem?_getD, hvi]; rfl
        have HVD := hide hvd
        have HBX := hide (HBD.out k hkl)
        have HNN := hide (HNIL.out k na _ nc hvi)
        rw [← hx] at hrange hr HBX HVD
        obtain ⟨q, hq⟩ : ∃ q, q = x.d.length := ⟨_, rfl⟩
        have HQ := hide hq
        rw [← hq] at hrange
        have HRG := hide (show wr.rangeAt b (off + k * 10) [.int .i64 x.k, .int .i64 x.l, .int .i64 x.m, .int .i64 x.u, .int .i64 x.g, .int .i64 x.p, .int .i64 x.e, .int .i64 x.t, .int .i64 x.c, .slice na q nc] from hrange)
        obtain ⟨Wa, hWa⟩ : ∃ Wa, Wa = wr.alloc (.cells #[.int .i64 x.k, .int .i64 x.l, .int .i64 x.m, .int .i64 x.u, .int .i64 x.g, .int .i64 x.p, .int .i64 x.e, .int .i64 x.t, .int .i64 x.c, .slice na q nc] 56) := ⟨_, rfl⟩
        have ba : Below wr.heap.size wr Wa := by rw [hWa]; exact (Below.refl _ _).alloc (Nat.le_refl _) _
        obtain ⟨dq, hdq⟩ : ∃ dq, dq = wr.heap.size := ⟨_, rfl⟩
        have KA := hide (show Blk Wa dq #[.int .i64 x.k, .int .i64 x.l, .int .i64 x.m, .int .i64 x.u, .int .i64 x.g, .int .i64 x.p, .int .i64 x.e, .int .i64 x.t, .int .i64 x.c, .slice na q nc] 56 from by rw [hWa, hdq]; exact Blk.new wr _ _)
        have HIa := hide (HI.out.below ba)
        have HON := hide (show Calls Tryz.prog 63 #[.agg #[.int .i64 x.k, .int .i64 x.l, .int .i64 x.m, .int .i64 x.u, .int .i64 x.g, .int .i64 x.p, .int .i64 x.e, .int .i64 x.t, .int .i64 x.c, .slice na q nc]] Wa _ from by rw [hq]; exact openNode_any x na nc Wa (hr.below ba) HBX.out HNN.out)
        have HWa := hide hWa
        have HDQ := hide hdq
        have HX := hide hx
        have hlo := HIa.out.lt.2.2.2
        clear hfr e2 hb hr hvi hrange hvd hx hq hWa ba hdq
        go_upto_region 9 with (refine wpList_load_mid rfl 56 _ rfl b (off + k * 10) rfl [.int .i64 x.k, .int .i64 x.l, .int .i64 x.m, .int .i64 x.u, .int .i64 x.g, .int .i64 x.p, .int .i64 x.e, .int .i64 x.t, .int .i64 x.c, .slice na q nc] _ HRG.out Tryz.underlying56 rfl infoNd ?_)
        rw [← HWa.out, ← HDQ.out]
        clear HWa HRG HDQ
        go_wp2_with (first | (refine wpList_load_row rfl 56 _ rfl dq rfl 56 #[.int .i64 x.k, .int .i64 x.l, .int .i64 x.m, .int .i64 x.u, .int .i64 x.g, .int .i64 x.p, .int .i64 x.e, .int .i64 x.t, .int .i64 x.c, .slice na q nc] (0, 0) _ KA.out Tryz.underlying56 rfl infoNd ?_) | (go_at_call 63; fail))
        refine HON.out.mono ?_
        rintro e w5 ⟨pa, ev5, rfl, hf5, b5, hop5⟩
        have HI5 := hide (HIa.out.below b5)
        have HIN := hide (fun place => inside_both W0.heap.size (W0.heap.size + 1) place 21 (dkA L k) (dkB x) ev5 w5 HI5.out.kn.ck (hf5.mono HIa.out.kn.lo) (by omega) HI5.out.kn.lo)
        have HOP := hide (show dkB x = true → OpB lo w5 x (.slice na x.d.length nc) (.pointer pa) from fun h => by
          exact (hop5 h).mono hlo)
        rw [← HCC.out] at HIN
        clear hf5 b5 hop5 HON
        go_wp2_with (go_at_call 61; fail)
        refine (HIN.out _).mono ?_
        rintro e w6 ⟨rfl, hc6, ht6⟩
        rw [HCC.out] at hc6 ht6
        have HI6 := hide (show OsI C L vs W0 Bs Bn lo k (dkA L (k + 1)) ps w6 from HI5.out.tch (by rw [show dkA L (k + 1) = (dkA L k && dkB (ndAt L k)) from rfl, ← HX.out]; exact hc6) ht6)
        have HOP6 := hide (show dkB x = true → OpB lo w6 x (.slice na x.d.length nc) (.pointer pa) from fun h => (HOP.out h).keepF (fun j hj hjl => ht6.1.block j hjl (by have := HI5.out.lt; simp; omega)))
        have HI7 := hide (show OsI C L vs W0 Bs Bn lo (k + 1) (dkA L (k + 1)) (ps.setIfInBounds k (.pointer pa)) (w6.setCell ⟨Bn, k, none⟩ (.pointer pa)) from HI6.out.put hkl (by rw [← HX.out, HVD.out]; exact HOP6.out))
        have g1 : w6.cell? ⟨Bs, 1, none⟩ = some (.slice (some ⟨Bn, 0, none⟩) N N) := by rw [HN.out]; exact (HI6.out.st.cell 1).trans rfl
        obtain ⟨u, hu⟩ : ∃ u, ps[k]? = some u := ⟨_, Array.getElem?_eq_getElem (by rw [HI6.out.sz]; exact hkl)⟩
        have g2 : w6.cell? ⟨Bn, k, none⟩ = some u := (HI6.out.nd.cell k).trans hu
        have g3 := HI6.out.nd.frozen k
        have hkJ : ¬ ((N : Int) ≤ (k : Int)) := by omega
        clear hc6 ht6 HIN HOP hu
        go_wp2_with fail
        go_roundw
        case rel => exact ⟨k + 1, by omega, by go_num, hide ⟨_, HI7.out⟩⟩
        case measure => simp [intOf]; omega
      · have hkE : N = k := by omega
        subst hkE
        have HOS := hide (show ∀ W ok, dkA L N = true → OsI C L vs W0 Bs Bn lo N ok ps W → OpS W Bs Bn C L ps from fun W ok hd hI => by
          refine ⟨hI.st, ⟨hI.nd, hI.sz, fun i hi => ?_⟩⟩
          obtain ⟨p, h1, h2⟩ := hI.at_ i (by rw [HN.out]; exact hi) ((dkA_iff L N).1 hd i (by rw [HN.out]; exact hi))
          obtain ⟨_, _, _, na, nc, _, _, hr, hvi, _⟩ := node_at (HST.out W hI.kn.old).2.1 hi
          have hvd : vs.getD i undef = .slice na (ndAt L i).d.length nc := by rw [List.getD_eq_getElem?_getD, hvi]; rfl
          rw [hvd] at h2
          exact ⟨p, h1, h2.opN hr (HNIL.out i na _ nc hvi)⟩)
        have HKR := hide HI.out.kn
        obtain ⟨ev4, ce4, hf4⟩ := HKR.out.faultC HCC.out
        have HLW := hide (show w.heap.size ≤ W0.heap.size from by have := HS.out; omega)
        cases hdk : dkA L N with
        | false =>
          rw [hdk] at hf4
          rcases hf4 with ⟨h9, _⟩ | ⟨_, n4, hF4⟩
          · cases h9
          obtain ⟨t4, x4, rfl⟩ := hF4.iface
          have HF4 := hide hF4
          have HNO := hide (show ¬ RightS C L from fun h => by have := (HPR.out.1 h).2.1; rw [← HN.out, hdk] at this; cases this)
          clear hF4 hdk HOS
          go_upto_region 17 with fail
          go_quiet (fail)
          go_wp2_with fail
          refine bodyPost_ret (results_tmp2 rfl _ _ _) rfl ?_
          have hbd := Go.below_drewN (Below.refl wr.heap.size wr) nq
          exact ⟨_, false, _, rfl, ⟨fun h => (by cases h), fun h => absurd h HNO.out⟩, .inr ⟨rfl, n4, (HF4.out.below hbd).mono HLW.out⟩, (HST.out wr HKR.out.old).2.2.trans (hbd.mono (HST.out wr HKR.out.old).2.2.size), fun h => (by cases h)⟩
        | true =>
          rw [hdk] at hf4
          rcases hf4 with ⟨_, rfl⟩ | ⟨h9, _⟩
          case inr => cases h9
          have HOSG := hide (fun W ok => HOS.out W ok hdk)
          have HDK := hide (show ∀ i, i < L.length → (ndAt L i).k = 2 → dirOk (ndAt L i).d = true from fun i hi => (dkB_iff _).1 ((dkA_iff L N).1 hdk i (by rw [HN.out]; exact hi)))
          rw [hdk] at HKR HI
          have HDA := hide (show dkA L L.length = true from by rw [← HN.out]; exact hdk)
          clear hdk HOS
          go_wp2_with (go_at_call 64; fail)
          refine (endsFault_any Bs Bn C L ps wr (HOSG.out _ _ HI.out) (by rw [← HN.out]; omega) (fun h => HDK.out 1 (by rw [← HN.out]; omega) h)).mono ?_
          rintro e w4 ⟨ok4, ev5, rfl, hi4, hf5, b4⟩
          have HJ4 := hide (HI.out.below b4)
          have HIN4 := hide (fun place => inside_both W0.heap.size (W0.heap.size + 1) place 21 true ok4 ev5 w4 HJ4.out.kn.ck (hf5.mono HKR.out.lo) (by omega) HJ4.out.kn.lo)
          rw [← HCC.out] at HIN4
          have HI4 := hide hi4
          clear hi4 hf5 b4 ce4
          go_wp2_with (go_at_call 61; fail)
          refine (HIN4.out _).mono ?_
          rintro e w5 ⟨rfl, hc5, ht5⟩
          rw [HCC.out] at hc5 ht5
          rw [Bool.true_and] at hc5
          have HJ5 := hide (HJ4.out.tch hc5 ht5)
          have K5 := hide HJ5.out.kn
          clear hc5 ht5 HIN4
          obtain ⟨ev6, ce6, hf6⟩ := K5.out.faultC HCC.out
          cases ok4 with
          | false =>
            rcases hf6 with ⟨h9, _⟩ | ⟨_, n6, hF6⟩
            · cases h9
            obtain ⟨t6, x6, rfl⟩ := hF6.iface
            have HF6 := hide hF6
            have HNO := hide (show ¬ RightS C L from fun h => by have := HI4.out.2 (HPR.out.1 h).2.2.1; cases this)
            clear hF6
            go_upto_region 17 with fail
            go_quiet (fail)
            go_wp2_with fail
            refine bodyPost_ret (results_tmp2 rfl _ _ _) rfl ?_
            have hbd := Go.below_drewN (Below.refl w5.heap.size w5) nq
            exact ⟨_, false, _, rfl, ⟨fun h => (by cases h), fun h => absurd h HNO.out⟩, .inr ⟨rfl, n6, (HF6.out.below hbd).mono HLW.out⟩, (HST.out w5 K5.out.old).2.2.trans (hbd.mono (HST.out w5 K5.out.old).2.2.size), fun h => (by cases h)⟩
          | true =>
            rcases hf6 with ⟨_, rfl⟩ | ⟨h9, _⟩
            case inr => cases h9
            have HED := hide (HI4.out.1 rfl)
            have HNB := hide (show ∀ i, i < L.length → nodeB (ndAt L i) C = true from by
              have h1 := HNS.out
              unfold nsB at h1
              simp only [Bool.and_eq_true] at h1
              exact (allN_iff L C L.length).1 h1.1.2)
            have HOS5 := hide (HOSG.out _ _ HJ5.out)
            have HEN := hide (entriesFault_any Bs Bn C L ps w5 HOS5.out (by rw [← HN.out]; omega) ⟨by rw [← HN.out]; omega, HED.out.2.2.1.1⟩ HED.out.1 (fun i hi => by
              by_cases hk : (ndAt L i).k = 0
              · omega
              · have := plain_kind (node_fields (HNB.out i hi) hk).1
                omega) (fun i hi hk => (node_fields (HNB.out i hi) hk).2.1) HDK.out)
            go_wp2_with (go_at_call 65; fail)
            refine HEN.out.mono ?_
            rintro e w6 ⟨ok6, ev7, rfl, hi6, hf7, b6⟩
            have HJ6 := hide (HJ5.out.below b6)
            have HIN6 := hide (fun place => inside_both W0.heap.size (W0.heap.size + 1) place 21 true ok6 ev7 w6 HJ6.out.kn.ck (hf7.mono K5.out.lo) (by omega) HJ6.out.kn.lo)
            rw [← HCC.out] at HIN6
            have HI6 := hide (show ok6 = true ↔ RightS C L from by
              rw [hi6, HPR.out]
              exact ⟨fun h => ⟨HNS.out, HDA.out, HED.out, h⟩, fun h => h.2.2.2⟩)
            clear hi6 hf7 b6 ce6 HEN
            go_wp2_with (go_at_call 61; fail)
            refine (HIN6.out _).mono ?_
            rintro e w7 ⟨rfl, hc7, ht7⟩
            rw [HCC.out] at hc7 ht7
            rw [Bool.true_and] at hc7
            have HJ7 := hide (HJ6.out.tch hc7 ht7)
            have K7 := hide HJ7.out.kn
            have HOS7 := hide (HOSG.out _ _ HJ7.out)
            obtain ⟨ev8, ce8, hf8⟩ := K7.out.faultC HCC.out
            have HF8 := hide hf8
            clear hc7 ht7 HIN6 hf8
            go_upto_region 17 with fail
            go_quiet (fail)
            go_wp2_with fail
            refine bodyPost_ret (results_tmp2 rfl _ _ _) rfl ?_
            have hbd := Go.below_drewN (Below.refl w7.heap.size w7) nq
            exact ⟨_, ok6, _, rfl, HI6.out, (HF8.out.below hbd).mono HLW.out, (HST.out w7 K7.out.old).2.2.trans (hbd.mono (HST.out w7 K7.out.old).2.2.size), fun _ => ⟨Bs, Bn, ps, rfl, HOS7.out.below hbd⟩⟩
end Go.Proofs.YtplieplmhdfndaaGreatDoor

namespace Go.Proofs.YtplieplmhdfndaaGreatDoor
set_option linter.unusedVariables false
set_option linter.unusedSimpArgs false
open Go.RowKit

/-- A node's value: nine integers and its bytes. -/
abbrev nodeV (k l m u g p e t c : Int) (v : Value) : Value := .agg #[.int .i64 k, .int .i64 l, .int .i64 m, .int .i64 u, .int .i64 g, .int .i64 p, .int .i64 e, .int .i64 t, .int .i64 c, v]

end Go.Proofs.YtplieplmhdfndaaGreatDoor
