/- The model's l07Right. -/
import Derived.Test.YtplieplmhdfndaaGreatDoorZg20
import Derived.Test.YtplieplmhdfndaaGreatDoorZg21
namespace Go.Proofs.YtplieplmhdfndaaGreatDoor
set_option linter.unusedVariables false
set_option linter.unusedSimpArgs false
open Go.RowKit

theorem wpList_load_midS {P : Program} {ops : Array Oper} {rest : List Oper} {op : Oper} {a : Act} {w : World} {Q : Exit → Act → World → Prop} (hw : Region.wanted op (yielded ops a.tmps) = true) (ty : TypeId) (x : Operand) (ho : op.op = .load ty x)
    (b o : Nat) (hx : a.eval x = .pointer (some ⟨b, o, none⟩)) (cs : List Value) (d : TypeDesc) (hc : w.rangeAt b o cs)
    (hu : P.underlying ty = some d) (hd : d.isRow = true) (hi : (P.info? ty).map (·.size) = some cs.length)
    (h : wpList P ops Q rest (a.put op.dst (.agg cs.toArray)) w) : wpList P ops Q (op :: rest) a w :=
  Go.BigFrame.wpList_want hw fun _ hK => wp_load_mid ty x ho b o hx cs d hc hu hd hi (hK _ _ h)
theorem blk_range {W : World} {g : Nat} {cs : Array Value} {T : TypeId} (h : Blk W g cs T) : W.rangeAt g 0 cs.toList := fun i u hu => by
  rw [Nat.zero_add, h.cell i, ← Array.getElem?_toList]; exact hu
theorem infoSt : (Tryz.prog.info? 29).map (·.size) = some 2 := by kernel_rfl
/-- What l07Right answers. -/
def RgR (C : Int) (L : List Nd) (w w' : World) (e : Ending) : Prop := ∃ b, e = .returned (.bool b) ∧ (b = true ↔ RightS C L) ∧ Below w.heap.size w w'
theorem rg_no {C : Int} {L : List Nd} {w w' : World} (h : ¬ RightS C L) (hb : Below w.heap.size w w') : RgR C L w w' (.returned (.bool false)) := ⟨false, rfl, ⟨fun h1 => (by cases h1), fun h1 => absurd h1 h⟩, hb⟩
theorem row_cellsQ {W : World} {v : Value} {N : Nat} {f : Nat → Int} (h : Rd .i64 W v (rowQ N f)) (hN : 0 < N) : ∃ g o c, v = .slice (some ⟨g, o, none⟩) N c ∧ g < W.heap.size ∧ ∀ i, i < N → W.cell? ⟨g, o + i, none⟩ = some (.int .i64 (f i)) := by
  obtain ⟨g, o, c, e, hg, _, _, hc⟩ := h.partsC (by rw [rowQ_len]; exact hN)
  rw [rowQ_len] at e hc
  refine ⟨g, o, c, e, hg, fun i hi => ?_⟩
  rw [hc i hi]
  simp [rowQ, List.getD, hi]
/-- What is read of the tallies and of node k. -/
structure LkC (W : World) (dq tq g1 o1 n1 g2 o2 n2 g3 o3 n3 N k : Nat) (kd l p tn tf td : Int) : Prop where
  d0 : W.cell? ⟨dq, 0, none⟩ = some (.int .i64 kd)
  d1 : W.cell? ⟨dq, 1, none⟩ = some (.int .i64 l)
  d5 : W.cell? ⟨dq, 5, none⟩ = some (.int .i64 p)
  t0 : W.cell? ⟨tq, 0, none⟩ = some (.slice (some ⟨g1, o1, none⟩) N n1)
  t1 : W.cell? ⟨tq, 1, none⟩ = some (.slice (some ⟨g2, o2, none⟩) N n2)
  t2 : W.cell? ⟨tq, 2, none⟩ = some (.slice (some ⟨g3, o3, none⟩) N n3)
  x1 : W.cell? ⟨g1, o1 + k, none⟩ = some (.int .i64 tn)
  x2 : W.cell? ⟨g2, o2 + k, none⟩ = some (.int .i64 tf)
  x3 : W.cell? ⟨g3, o3 + k, none⟩ = some (.int .i64 td)
theorem LkC.below {W W' : World} {dq tq g1 o1 n1 g2 o2 n2 g3 o3 n3 N k : Nat} {kd l p tn tf td : Int} (h : LkC W dq tq g1 o1 n1 g2 o2 n2 g3 o3 n3 N k kd l p tn tf td) (hb : Below W.heap.size W W') : LkC W' dq tq g1 o1 n1 g2 o2 n2 g3 o3 n3 N k kd l p tn tf td :=
  ⟨(hb.cell (cell_lt h.d0)).trans h.d0, (hb.cell (cell_lt h.d1)).trans h.d1, (hb.cell (cell_lt h.d5)).trans h.d5, (hb.cell (cell_lt h.t0)).trans h.t0, (hb.cell (cell_lt h.t1)).trans h.t1, (hb.cell (cell_lt h.t2)).trans h.t2, (hb.cell (cell_lt h.x1)).trans h.x1, (hb.cell (cell_lt h.x2)).trans h.x2, (hb.cell (cell_lt h.x3)).trans h.x3⟩
set_option maxRecDepth 100000 in
set_option maxHeartbeats 8000000 in
theorem right_any (C : Int) (v : Value) (L : List Nd) (vs : List Value) (w : World) (h : RdN w 9 v (L.map ndE) vs) (hL : L.length ≤ 1048576) (hbd : ∀ i, i < L.length → ∀ z ∈ (ndAt L i).d, 0 ≤ z ∧ z < 256) :
    Calls Tryz.prog 33 #[.agg #[.int .i64 C, v]] w fun e w' => RgR C L w w' e := by
  obtain ⟨a, cap, rfl, hrow⟩ := h.row
  have hcN := hrow.2.1
  rw [List.length_map] at h hcN ⊢
  clear hrow
  obtain ⟨N, hN⟩ : ∃ N, N = L.length := ⟨_, rfl⟩
  rw [← hN] at h hL hcN ⊢
  have HN := hide hN
  have HR := hide h
  have HBD := hide hbd
  clear hN h hbd
  obtain ⟨W1, hW1⟩ : ∃ W1, W1 = w.alloc (.cells #[.int .i64 C, .slice a N cap] 29) := ⟨_, rfl⟩
  have b1 : Below w.heap.size w W1 := by rw [hW1]; exact (Below.refl _ _).alloc (Nat.le_refl _) _
  have k1 : Blk W1 w.heap.size #[.int .i64 C, .slice a N cap] 29 := by rw [hW1]; exact Blk.new w _ _
  have c0 := (k1.cell 0).trans (show _ = some (.int .i64 C) from rfl)
  have c1 := (k1.cell 1).trans (show _ = some (.slice a N cap) from rfl)
  have HR1 := hide (HR.out.below b1)
  have HB1 := hide b1
  have HW1 := hide hW1
  have K1 := hide k1
  clear b1 k1 hW1 HR
  go_enter Tryz.func33, Tryz.ntmps33
  go_upto_region 1 with fail
  rw [← HW1.out]
  clear HW1
  go_upto_region 2 with fail
  by_cases hC : wi C 1 1099511627776 = true
  rotate_left
  · have hC2 : wi C 1 1099511627776 = false := by simpa using hC
    have HNO := hide (show ¬ RightS C L from fun h => hC (by have := h.clock; simp [wi, this.1, this.2]))
    clear hC
    go_wp2_with (go_at_call 54; refine (l02Within_any _ _ _ _).mono ?_; rintro r w9 ⟨rfl, e9⟩; rw [← e9]; clear e9)
    go_ret
    exact rg_no HNO.out HB1.out
  have HC := hide (wi_true hC)
  by_cases h2 : N < 2
  · have hn2 : ((N : Int) < 2) := by omega
    have HNO := hide (show ¬ RightS C L from fun h => by have := h.len; have := HN.out; omega)
    clear h2
    go_wp2_with (go_at_call 54; refine (l02Within_any _ _ _ _).mono ?_; rintro r w9 ⟨rfl, e9⟩; rw [← e9]; clear e9)
    go_ret
    exact rg_no HNO.out HB1.out
  by_cases h3 : 1001 < N
  · have hn2 : ¬ ((N : Int) < 2) := by omega
    have hn3 : (1001 : Int) < (N : Int) := by omega
    have HNO := hide (show ¬ RightS C L from fun h => by have := h.len; have := HN.out; omega)
    clear h2 h3
    go_wp2_with (go_at_call 54; refine (l02Within_any _ _ _ _).mono ?_; rintro r w9 ⟨rfl, e9⟩; rw [← e9]; clear e9)
    go_ret
    exact rg_no HNO.out HB1.out
  obtain ⟨b, ofb, cap', na, nc, e0, hb, hr, _, hrange⟩ := node_at HR1.out (i := 0) (by rw [← HN.out]; omega)
  injection e0 with e1 e2 e3
  subst e1 e3
  rw [Nat.zero_mul, Nat.add_zero] at hrange
  have HRG := hide hrange
  obtain ⟨x, hx⟩ : ∃ x, x = ndAt L 0 := ⟨_, rfl⟩
  rw [← hx] at HRG hr
  have HX := hide hx
  have HRD := hide hr
  clear hr hrange hx e2 hb
  have hn2 : decide ((N : Int) < 2) = false := decide_eq_false (by omega)
  have hn3 : decide ((1001 : Int) < (N : Int)) = false := decide_eq_false (by omega)
  have hCb := hC
  clear hC
  go_wp2_with (first | (go_at_call 54; refine (l02Within_any _ _ _ _).mono ?_; rintro r w9 ⟨rfl, e9⟩; rw [← e9]; clear e9) | (refine wpList_load_midS (by rfl) 56 _ rfl b ofb rfl [.int .i64 x.k, .int .i64 x.l, .int .i64 x.m, .int .i64 x.u, .int .i64 x.g, .int .i64 x.p, .int .i64 x.e, .int .i64 x.t, .int .i64 x.c, .slice na x.d.length nc] _ HRG.out Tryz.underlying56 rfl infoNd ?_) | (go_at_call 55; fail))
  refine (free_any x na nc W1).mono ?_
  rintro r w2 ⟨rfl, b2⟩
  have HB2 := hide (HB1.out.trans (b2.mono HB1.out.size))
  have HR2 := hide (HR1.out.below b2)
  have K2 := hide (K1.out.below b2 K1.out.lt)
  have c02 := (K2.out.cell 0).trans (show _ = some (.int .i64 C) from rfl)
  have c12 := (K2.out.cell 1).trans (show _ = some (.slice (some ⟨b, ofb, none⟩) N cap) from rfl)
  clear b2 HRG HRD hCb c0 c1
  cases hf : freeN x with
  | false =>
    have HNO := hide (show ¬ RightS C L from fun h => by have := h.zero; rw [← HX.out, hf] at this; cases this)
    clear hf
    go_wp2_with fail
    go_ret
    exact rg_no HNO.out HB2.out
  | true =>
    have HF0 := hide (show freeN (ndAt L 0) = true from by rw [← HX.out]; exact hf)
    clear hf hn2 hn3
    have nd : ∀ i, i < N → ∀ j u, (ndF (ndAt L i))[j]? = some u → w2.cell? ⟨b, ofb + i * 10 + j, none⟩ = some u := fun i hi j u hu => by
      obtain ⟨b', ofb', cap', na', nc', e0, _, _, _, hrange⟩ := node_at HR2.out (i := i) (by rw [← HN.out]; exact hi)
      injection e0 with e1 e2 e3
      injection e1 with e1
      injection e1 with e4 e5
      subst e4 e5
      refine hrange j u ?_
      rw [ndC_list, List.getElem?_append_left (by have := (List.getElem?_eq_some_iff.1 hu).1; exact this)]
      exact hu
    obtain ⟨r1, hr1⟩ : ∃ r1, r1 = (ndAt L 1).k := ⟨_, rfl⟩
    obtain ⟨p1, hp1⟩ : ∃ p1, p1 = (ndAt L 1).p := ⟨_, rfl⟩
    obtain ⟨z1, hz1⟩ : ∃ z1, z1 = (ndAt L (N - 1)).k := ⟨_, rfl⟩
    have d1 : w2.cell? ⟨b, ofb + 10, none⟩ = some (.int .i64 r1) := by rw [hr1]; exact nd 1 (by omega) 0 _ rfl
    have d2 : w2.cell? ⟨b, ofb + 10 + 5, none⟩ = some (.int .i64 p1) := by rw [hp1]; exact nd 1 (by omega) 5 _ rfl
    have d3 : w2.cell? ⟨b, ofb + (N - 1) * 10, none⟩ = some (.int .i64 z1) := by rw [hz1]; exact nd (N - 1) (by omega) 0 _ rfl
    have HND := hide nd
    have HR1E := hide hr1
    have HP1E := hide hp1
    have HZ1E := hide hz1
    clear nd hr1 hp1 hz1
    by_cases hq1 : r1 = 2
    rotate_left
    · have hq1b : (r1 != 2) = true := by simpa using hq1
      have HNO := hide (show ¬ RightS C L from fun h => hq1 (by rw [HR1E.out]; exact h.root.1))
      clear hq1
      go_wp2_with fail
      go_ret
      exact rg_no HNO.out HB2.out
    by_cases hq2 : p1 = 1
    rotate_left
    · have hq1b : (r1 != 2) = false := by simp [hq1]
      have hq2b : (p1 != 1) = true := by simpa using hq2
      have HNO := hide (show ¬ RightS C L from fun h => hq2 (by rw [HP1E.out]; exact h.root.2))
      clear hq1 hq2
      go_wp2_with fail
      go_ret
      exact rg_no HNO.out HB2.out
    by_cases hq3 : z1 = 0
    · have hq1b : (r1 != 2) = false := by simp [hq1]
      have hq2b : (p1 != 1) = false := by simp [hq2]
      have hq3b : (z1 == 0) = true := by simpa using hq3
      have HNO := hide (show ¬ RightS C L from fun h => by have h5 := h.last; rw [← HN.out, ← HZ1E.out] at h5; exact h5 hq3)
      clear hq1 hq2 hq3
      go_wp2_with fail
      go_ret
      exact rg_no HNO.out HB2.out
    have hq1b : (r1 != 2) = false := by simp [hq1]
    have hq2b : (p1 != 1) = false := by simp [hq2]
    have hq3b : (z1 == 0) = false := by simpa using hq3
    have HROOT := hide (show (ndAt L 1).k = 2 ∧ (ndAt L 1).p = 1 ∧ (ndAt L (L.length - 1)).k ≠ 0 from ⟨by rw [← HR1E.out]; exact hq1, by rw [← HP1E.out]; exact hq2, by rw [← HN.out, ← HZ1E.out]; exact hq3⟩)
    clear hq1 hq2 hq3
    go_wp2_with fail
    clear d1 d2 d3 hq1b hq2b hq3b HND HR1E HP1E HZ1E HX
    go_loopw [60] (fun iv wr => ∃ k : Nat, k ≤ N - 1 ∧ iv = .int .i64 (k : Int) ∧ Hid (Below w2.heap.size w2 wr) ∧ Hid (∀ i, 1 ≤ i → i < k + 1 → freeN (ndAt L i) = true ∨ plainN (ndAt L i) C = true)) (fun iv _ => N - (intOf iv).toNat)
    case atStart => exact ⟨0, Nat.zero_le _, rfl, Below.refl _ _, fun i h1 h2 => by omega⟩
    case round =>
      obtain ⟨k, hk, rfl, HF, HG⟩ := hrel
      by_cases hlt : k < N - 1
      · obtain ⟨b', ofb', cap', na, nc, e0, hb, hr, _, hrange⟩ := node_at (HR2.out.below HF.out) (i := k + 1) (by rw [← HN.out]; omega)
        injection e0 with e1 e2 e3
        injection e1 with e1
        injection e1 with e4 e5
        subst e4 e5
        rw [show ofb + (k + 1) * 10 = ofb + 10 + k * 10 by omega] at hrange
        have HRG := hide hrange
        have HZB := hide (HBD.out (k + 1) (by rw [← HN.out]; omega))
        obtain ⟨x, hx⟩ : ∃ x, x = ndAt L (k + 1) := ⟨_, rfl⟩
        rw [← hx] at HRG hr HZB
        have HX := hide hx
        obtain ⟨q, hq⟩ : ∃ q, q = x.d.length := ⟨_, rfl⟩
        have HQ := hide hq
        rw [← hq] at HRG hr
        obtain ⟨Wa, hWa⟩ : ∃ Wa, Wa = wr.alloc (.cells #[.int .i64 x.k, .int .i64 x.l, .int .i64 x.m, .int .i64 x.u, .int .i64 x.g, .int .i64 x.p, .int .i64 x.e, .int .i64 x.t, .int .i64 x.c, .slice na q nc] 56) := ⟨_, rfl⟩
        have ba : Below wr.heap.size wr Wa := by rw [hWa]; exact (Below.refl _ _).alloc (Nat.le_refl _) _
        have KA := hide (show Blk Wa wr.heap.size #[.int .i64 x.k, .int .i64 x.l, .int .i64 x.m, .int .i64 x.u, .int .i64 x.g, .int .i64 x.p, .int .i64 x.e, .int .i64 x.t, .int .i64 x.c, .slice na q nc] 56 from by rw [hWa]; exact Blk.new wr _ _)
        have HFa := hide (HF.out.trans (ba.mono HF.out.size))
        have HRD := hide (hr.below ba)
        have HWa := hide hWa
        have cA := ((K2.out.below HFa.out K2.out.lt).cell 0).trans (show _ = some (.int .i64 C) from rfl)
        clear hr hrange hx hq e2 e3 hb hWa ba HF
        go_upto_region 9 with (refine wpList_load_mid rfl 56 _ rfl b (ofb + 10 + k * 10) rfl [.int .i64 x.k, .int .i64 x.l, .int .i64 x.m, .int .i64 x.u, .int .i64 x.g, .int .i64 x.p, .int .i64 x.e, .int .i64 x.t, .int .i64 x.c, .slice na q nc] _ HRG.out Tryz.underlying56 rfl infoNd ?_)
        rw [← HWa.out]
        obtain ⟨dq, hdq⟩ : ∃ dq, dq = wr.heap.size := ⟨_, rfl⟩
        rw [← hdq] at KA ⊢
        clear HWa HRG hdq
        go_wp2_with (first | (refine wpList_load_row rfl 56 _ rfl dq rfl 56 #[.int .i64 x.k, .int .i64 x.l, .int .i64 x.m, .int .i64 x.u, .int .i64 x.g, .int .i64 x.p, .int .i64 x.e, .int .i64 x.t, .int .i64 x.c, .slice na q nc] (0, 0) _ KA.out Tryz.underlying56 rfl infoNd ?_) | (go_at_call 55; fail))
        have HFC := hide (show Calls Tryz.prog 55 #[.agg #[.int .i64 x.k, .int .i64 x.l, .int .i64 x.m, .int .i64 x.u, .int .i64 x.g, .int .i64 x.p, .int .i64 x.e, .int .i64 x.t, .int .i64 x.c, .slice na q nc]] Wa fun r w' => r = .returned (.bool (freeN x)) ∧ Below Wa.heap.size Wa w' from by have := free_any x na nc Wa; rw [← HQ.out] at this; exact this)
        refine HFC.out.mono ?_
        rintro r w3 ⟨rfl, b3⟩
        have KA3 := hide (KA.out.below b3 KA.out.lt)
        have HF3 := hide (HFa.out.trans (b3.mono HFa.out.size))
        have c3 := ((K2.out.below HF3.out K2.out.lt).cell 0).trans (show _ = some (.int .i64 C) from rfl)
        have HRD3 := hide (HRD.out.below b3)
        have HB3 := hide (HB2.out.trans (HF3.out.mono HB2.out.size))
        clear b3 HRD KA HFa cA HFC
        cases hf : freeN x with
        | true =>
          have HG2 := hide (show ∀ i, 1 ≤ i → i < k + 1 + 1 → freeN (ndAt L i) = true ∨ plainN (ndAt L i) C = true from fun i h1 h2 => by
            rcases Nat.lt_or_ge i (k + 1) with h | h
            · exact HG.out i h1 h
            · have : i = k + 1 := by omega
              subst this
              rw [← HX.out]; exact .inl hf)
          clear hf
          go_wp2_with fail
          go_roundw
          case rel => exact ⟨k + 1, by omega, by go_num, HF3, HG2⟩
          case measure => simp [intOf]; omega
        | false =>
          go_wp2_with (first | (refine wpList_load_row rfl 56 _ rfl dq rfl 56 #[.int .i64 x.k, .int .i64 x.l, .int .i64 x.m, .int .i64 x.u, .int .i64 x.g, .int .i64 x.p, .int .i64 x.e, .int .i64 x.t, .int .i64 x.c, .slice na q nc] (0, 0) _ KA3.out Tryz.underlying56 rfl infoNd ?_) | (refine wpList_load_midS (by rfl) 56 _ rfl dq 0 rfl [.int .i64 x.k, .int .i64 x.l, .int .i64 x.m, .int .i64 x.u, .int .i64 x.g, .int .i64 x.p, .int .i64 x.e, .int .i64 x.t, .int .i64 x.c, .slice na q nc] _ (blk_range KA3.out) Tryz.underlying56 rfl infoNd ?_) | (go_at_call 56; fail))
          have HPC := hide (show Calls Tryz.prog 56 #[.agg #[.int .i64 x.k, .int .i64 x.l, .int .i64 x.m, .int .i64 x.u, .int .i64 x.g, .int .i64 x.p, .int .i64 x.e, .int .i64 x.t, .int .i64 x.c, .slice na q nc], .int .i64 C] w3 fun r w' => r = .returned (.bool (plainN x C)) ∧ Below w3.heap.size w3 w' from by have := plain_any x C na nc w3 (by rw [← HQ.out]; exact HRD3.out) HZB.out; rw [← HQ.out] at this; exact this)
          refine HPC.out.mono ?_
          rintro r w4 ⟨rfl, b4⟩
          have HF4 := hide (HF3.out.trans (b4.mono HF3.out.size))
          have HB4 := hide (HB2.out.trans (HF4.out.mono HB2.out.size))
          clear b4 HPC
          cases hp : plainN x C with
          | true =>
            have HG2 := hide (show ∀ i, 1 ≤ i → i < k + 1 + 1 → freeN (ndAt L i) = true ∨ plainN (ndAt L i) C = true from fun i h1 h2 => by
              rcases Nat.lt_or_ge i (k + 1) with h | h
              · exact HG.out i h1 h
              · have : i = k + 1 := by omega
                subst this
                rw [← HX.out]; exact .inr hp)
            clear hf hp
            go_wp2_with fail
            go_roundw
            case rel => exact ⟨k + 1, by omega, by go_num, HF4, HG2⟩
            case measure => simp [intOf]; omega
          | false =>
            have HNO := hide (show ¬ RightS C L from fun h => by
              have h6 := h.node (k + 1) (by omega) (by rw [← HN.out]; omega)
              rw [← HX.out, hf, hp] at h6
              rcases h6 with h6 | h6 <;> cases h6)
            clear hf hp
            go_wp2_with fail
            go_ret
            exact rg_no HNO.out HB4.out
      · have HALL := hide (show ∀ i, 1 ≤ i → i < L.length → freeN (ndAt L i) = true ∨ plainN (ndAt L i) C = true from fun i h1 hi => HG.out i h1 (by have := HN.out; omega))
        have HTOT := hide (show totN L ≤ 1099511627776 from by
          have h1 := tot_le L (fun x hx => by
            obtain ⟨i, hi, rfl⟩ := List.mem_iff_getElem.1 hx
            have e : ndAt L i = L[i] := by simp [ndAt, List.getD, hi]
            rw [← e]
            rcases Nat.eq_zero_or_pos i with h0 | h0
            · rw [h0]; exact plain_len (C := C) (.inl HF0.out)
            · exact plain_len (HALL.out i h0 hi))
          have h2 := HN.out
          omega)
        have KR := hide (K2.out.below HF.out K2.out.lt)
        have HR3 := hide (HR2.out.below HF.out)
        have HB3 := hide (HB2.out.trans (HF.out.mono HB2.out.size))
        clear HG
        go_wp2_with (first | (refine wpList_load_row rfl 29 _ rfl w.heap.size rfl 29 #[.int .i64 C, .slice (some ⟨b, ofb, none⟩) N cap] (0, 0) _ KR.out Tryz.underlying29 rfl infoSt ?_) | (go_at_call 57; fail))
        refine (total_any C (.slice (some ⟨b, ofb, none⟩) N cap) L vs wr HR3.out HTOT.out (by rw [← HN.out]; exact hL)).mono ?_
        rintro r w4 ⟨rfl, b4⟩
        have KR4 := hide (KR.out.below b4 KR.out.lt)
        have HR4 := hide (HR3.out.below b4)
        have HB4 := hide (HB3.out.trans (b4.mono HB3.out.size))
        have hTb := HTOT.out
        obtain ⟨tt, htt⟩ : ∃ tt, tt = totN L := ⟨_, rfl⟩
        rw [← htt] at hTb ⊢
        have HTT := hide htt
        clear htt b4 KR HR3
        by_cases ht : 1048576 < tt
        · have ht2 : (1048576 : Int) < (tt : Int) := by omega
          have HNO := hide (show ¬ RightS C L from fun h => by have := h.tot; have := HTT.out; omega)
          clear ht
          go_wp2_with fail
          go_ret
          exact rg_no HNO.out HB4.out
        have ht2 : ¬ (1048576 : Int) < (tt : Int) := by omega
        have HTL := hide (show totN L ≤ 1048576 from by rw [← HTT.out]; omega)
        clear ht
        go_upto_region 14 with fail
        clear ht2
        go_wp2_with (first | (refine wpList_load_row rfl 29 _ rfl w.heap.size rfl 29 #[.int .i64 C, .slice (some ⟨b, ofb, none⟩) N cap] (0, 0) _ KR4.out Tryz.underlying29 rfl infoSt ?_) | (go_at_call 58; fail))
        refine (tally_any C (.slice (some ⟨b, ofb, none⟩) N cap) L vs w4 HR4.out (by rw [← HN.out]; exact hL) HBD.out).mono ?_
        rintro r w5 ⟨_, _, _, ok, rfl, hok, hrows, b5, a1, q1, n1, a2, q2, n2, a3, q3, n3, rfl, rfl, rfl⟩
        have HB5 := hide (HB4.out.trans (b5.mono HB4.out.size))
        have KR5 := hide (KR4.out.below b5 KR4.out.lt)
        have HR5 := hide (HR4.out.below b5)
        clear b5 KR4 HR4
        cases ok with
        | false =>
          have HNO := hide (show ¬ RightS C L from fun h => by
            have h8 := (entTo_iff snap_name ⟨by have := h.len; omega, h.root.1⟩).2 ⟨h.dirs, h.ents, h.snap⟩
            have := hok.2 h8
            cases this)
          clear hok hrows
          go_wp2_with fail
          go_ret
          exact rg_no HNO.out (HB5.out.alloc HB5.out.size _)
        | true =>
          have HET := hide (hok.1 rfl)
          obtain ⟨hr1, hr2, hr3⟩ := hrows rfl
          have e1 : q1 = N := by obtain ⟨_, _, e⟩ := rd_shape hr1; injection e with _ e _; rw [e, rowQ_len, HN.out]
          have e2 : q2 = N := by obtain ⟨_, _, e⟩ := rd_shape hr2; injection e with _ e _; rw [e, rowQ_len, HN.out]
          have e3 : q3 = N := by obtain ⟨_, _, e⟩ := rd_shape hr3; injection e with _ e _; rw [e, rowQ_len, HN.out]
          have e1 := e1.symm
          have e2 := e2.symm
          have e3 := e3.symm
          subst e1
          subst e2
          subst e3
          have HT1 := hide hr1
          have HT2 := hide hr2
          have HT3 := hide hr3
          clear hok hrows hr1 hr2 hr3
          go_upto_region 17 with fail
          have hp0 : 0 < N := by omega
          obtain ⟨g1, o1, c1, e1, _, hc1⟩ := row_cellsQ (N := N) (by rw [HN.out]; exact HT1.out) hp0
          obtain ⟨g2, o2, c2, e2, _, hc2⟩ := row_cellsQ (N := N) (by rw [HN.out]; exact HT2.out) hp0
          obtain ⟨g3, o3, c3, e3, _, hc3⟩ := row_cellsQ (N := N) (by rw [HN.out]; exact HT3.out) hp0
          injection e1 with e1 _ _
          injection e2 with e2 _ _
          injection e3 with e3 _ _
          subst e1
          subst e2
          subst e3
          have HX1 := hide hc1
          have HX2 := hide hc2
          have HX3 := hide hc3
          clear hc1 hc2 hc3 HT1 HT2 HT3
          obtain ⟨W6, hW6⟩ : ∃ W6, W6 = w5.alloc (.cells #[.slice (some ⟨g1, o1, none⟩) N n1, .slice (some ⟨g2, o2, none⟩) N n2, .slice (some ⟨g3, o3, none⟩) N n3, .bool true] 123) := ⟨_, rfl⟩
          obtain ⟨tq, htq⟩ : ∃ tq, tq = w5.heap.size := ⟨_, rfl⟩
          have b6 : Below w5.heap.size w5 W6 := by rw [hW6]; exact (Below.refl _ _).alloc (Nat.le_refl _) _
          have K6 := hide (show Blk W6 tq #[.slice (some ⟨g1, o1, none⟩) N n1, .slice (some ⟨g2, o2, none⟩) N n2, .slice (some ⟨g3, o3, none⟩) N n3, .bool true] 123 from by rw [hW6, htq]; exact Blk.new w5 _ _)
          rw [← hW6, ← htq]
          have HB56 := hide b6
          have HB6 := hide (HB5.out.trans (b6.mono HB5.out.size))
          have KR6 := hide (KR5.out.below b6 KR5.out.lt)
          have HR6 := hide (HR5.out.below b6)
          have HIFF := hide (right_iff (C := C) (L := L) snap_name HC.out (by have := HN.out; omega) HF0.out ⟨HROOT.out.1, HROOT.out.2.1⟩ HROOT.out.2.2 HALL.out HTL.out)
          clear hW6 htq b6 KR5 HR5
          go_wp2_with fail
          go_loopw [7] (fun iv wr => ∃ k : Nat, 1 ≤ k ∧ k ≤ N ∧ iv = .int .i64 (k : Int) ∧ Hid (Below W6.heap.size W6 wr) ∧ Hid (∀ i, 1 ≤ i → i < k → LnkP L i)) (fun iv _ => N - (intOf iv).toNat)
          case atStart => exact ⟨1, Nat.le_refl _, by omega, rfl, Below.refl _ _, fun i h1 h2 => by omega⟩
          case round =>
            obtain ⟨k, hk1, hk, rfl, HF6, HG6⟩ := hrel
            by_cases hlt : k < N
            · obtain ⟨b', ofb', cap', na, nc, e0, hb, hr, _, hrange⟩ := node_at (HR6.out.below HF6.out) (i := k) (by rw [← HN.out]; omega)
              injection e0 with e1 e2 e3
              injection e1 with e1
              injection e1 with e4 e5
              subst e4 e5
              have HRG := hide hrange
              obtain ⟨x, hx⟩ : ∃ x, x = ndAt L k := ⟨_, rfl⟩
              rw [← hx] at HRG hr
              obtain ⟨q, hq⟩ : ∃ q, q = x.d.length := ⟨_, rfl⟩
              rw [← hq] at HRG hr
              obtain ⟨dq, hdq⟩ : ∃ dq, dq = wr.heap.size := ⟨_, rfl⟩
              obtain ⟨Wa, hWa⟩ : ∃ Wa, Wa = wr.alloc (.cells #[.int .i64 x.k, .int .i64 x.l, .int .i64 x.m, .int .i64 x.u, .int .i64 x.g, .int .i64 x.p, .int .i64 x.e, .int .i64 x.t, .int .i64 x.c, .slice na q nc] 56) := ⟨_, rfl⟩
              have ba : Below wr.heap.size wr Wa := by rw [hWa]; exact (Below.refl _ _).alloc (Nat.le_refl _) _
              have KA := hide (show Blk Wa dq #[.int .i64 x.k, .int .i64 x.l, .int .i64 x.m, .int .i64 x.u, .int .i64 x.g, .int .i64 x.p, .int .i64 x.e, .int .i64 x.t, .int .i64 x.c, .slice na q nc] 56 from by rw [hWa, hdq]; exact Blk.new wr _ _)
              have HFa := hide (HF6.out.trans (ba.mono HF6.out.size))
              have HWa := hide hWa
              have HDQ := hide hdq
              have cS := ((KR6.out.below HF6.out KR6.out.lt).cell 1).trans (show _ = some (.slice (some ⟨b, ofb, none⟩) N cap) from rfl)
              obtain ⟨tn, htn⟩ : ∃ tn, tn = tnQ (allQ L L.length) k := ⟨_, rfl⟩
              obtain ⟨tf, htf⟩ : ∃ tf, tf = tfQ (allQ L L.length) k := ⟨_, rfl⟩
              obtain ⟨td, htd⟩ : ∃ td, td = tdQ (allQ L L.length) k := ⟨_, rfl⟩
              have hT : 0 ≤ td ∧ td ≤ 8589934592 := by
                have h1 := tdQ_bd (allQ L L.length) k
                have h2 := allQ_len HET.out
                have h3 := HN.out
                rw [← htd] at h1
                omega
              have HLK := hide (show LkC Wa dq tq g1 o1 n1 g2 o2 n2 g3 o3 n3 N k x.k x.l x.p tn tf td from by
                have hb5 : Below w5.heap.size w5 Wa := HB56.out.trans (HFa.out.mono HB56.out.size)
                have hK := K6.out.below HFa.out K6.out.lt
                have z1 := HX1.out k hlt
                have z2 := HX2.out k hlt
                have z3 := HX3.out k hlt
                rw [← htn] at z1
                rw [← htf] at z2
                rw [← htd] at z3
                exact ⟨(KA.out.cell 0).trans rfl, (KA.out.cell 1).trans rfl, (KA.out.cell 5).trans rfl, (hK.cell 0).trans rfl, (hK.cell 1).trans rfl, (hK.cell 2).trans rfl, (hb5.cell (cell_lt z1)).trans z1, (hb5.cell (cell_lt z2)).trans z2, (hb5.cell (cell_lt z3)).trans z3⟩)
              have HLP := hide (show LnkP L k ↔ (x.k = 2 → x.l = 2 + td ∧ x.l ≤ 1000 ∧ (1 < k → tn = 1 ∧ tf = x.p)) ∧ (x.k = 1 ∨ x.k = 3 → x.l = tn ∧ 1 ≤ x.l ∧ x.l ≤ 1000) from by rw [hx, htn, htf, htd]; rfl)
              have HGN := hide (show LnkP L k → ∀ i, 1 ≤ i → i < k + 1 → LnkP L i from fun h i h1 h2 => by
                rcases Nat.lt_or_ge i k with h3 | h3
                · exact HG6.out i h1 h3
                · have : i = k := by omega
                  subst this
                  exact h)
              have HNR := hide (show ¬ LnkP L k → ¬ RightS C L from fun h h9 => h ((HIFF.out.1 h9).2.1 k hk1 (by rw [← HN.out]; exact hlt)))
              clear hr hrange hx hq hdq e2 e3 hb hWa ba htn htf htd
              go_upto_region 21 with (refine wpList_load_mid rfl 56 _ rfl b (ofb + k * 10) rfl [.int .i64 x.k, .int .i64 x.l, .int .i64 x.m, .int .i64 x.u, .int .i64 x.g, .int .i64 x.p, .int .i64 x.e, .int .i64 x.t, .int .i64 x.c, .slice na q nc] _ HRG.out Tryz.underlying56 rfl infoNd ?_)
              rw [← HWa.out, ← HDQ.out]
              clear HWa HRG cS KA HDQ HF6 HG6
              have HBA := hide (show ∀ W, Below Wa.heap.size Wa W → Below w.heap.size w W ∧ Below W6.heap.size W6 W from fun W hb => by
                have h1 := HFa.out.trans (hb.mono HFa.out.size)
                exact ⟨HB6.out.trans (h1.mono HB6.out.size), h1⟩)
              obtain ⟨kd, hkd⟩ : ∃ kd, kd = x.k := ⟨_, rfl⟩
              obtain ⟨l, hl⟩ : ∃ l, l = x.l := ⟨_, rfl⟩
              obtain ⟨p, hp⟩ : ∃ p, p = x.p := ⟨_, rfl⟩
              rw [← hkd, ← hl, ← hp] at HLK HLP
              clear hkd hl hp HFa
              have f0 := HLK.out.d0
              have f1 := HLK.out.d1
              have f5 := HLK.out.d5
              have ft0 := HLK.out.t0
              have ft1 := HLK.out.t1
              have ft2 := HLK.out.t2
              have fx1 := HLK.out.x1
              have fx2 := HLK.out.x2
              have fx3 := HLK.out.x3
              have hw2 : IntKind.i64.wrap (2 + td) = 2 + td := by rw [IntKind.wrap_i64]; omega
              by_cases hk2 : kd = 2
              · subst hk2
                by_cases h1 : l = 2 + td
                rotate_left
                · have h1b : (l != 2 + td) = true := by simpa using h1
                  have HNO := hide (HNR.out (fun h => h1 ((HLP.out.1 h).1 rfl).1))
                  clear h1
                  go_upto_region 23 with fail
                  go_quiet (fail)
                  go_wp2_with fail
                  go_ret
                  exact rg_no HNO.out (HBA.out _ (Go.below_drewN (Below.refl _ _) _)).1
                have h1b : (l != 2 + td) = false := by simp [h1]
                by_cases h2 : l ≤ 1000
                rotate_left
                · have h2b : (1000 : Int) < l := by omega
                  have HNO := hide (HNR.out (fun h => h2 ((HLP.out.1 h).1 rfl).2.1))
                  have h2c : decide ((1000 : Int) < l) = true := decide_eq_true h2b
                  clear h1 h2
                  go_upto_region 23 with fail
                  go_quiet (fail)
                  go_wp2_with fail
                  go_ret
                  exact rg_no HNO.out (HBA.out _ (Go.below_drewN (Below.refl _ _) _)).1
                have h2b : decide ((1000 : Int) < l) = false := decide_eq_false (by omega)
                have H1 := hide h1
                have H2 := hide h2
                clear h1 h2
                go_upto_region 23 with fail
                go_quiet (fail)
                obtain ⟨Wb, hWb⟩ : ∃ Wb, Wb = Wa.drewN nq := ⟨_, rfl⟩
                have HBb := hide (show Below Wa.heap.size Wa Wb from by rw [hWb]; exact Go.below_drewN (Below.refl _ _) _)
                rw [← hWb]
                clear hWb
                clear nq
                clear f0 f1 f5 ft0 ft1 ft2 fx1 fx2 fx3 h1b h2b
                have HLb := hide (HLK.out.below HBb.out)
                have f5 := HLb.out.d5
                have ft0 := HLb.out.t0
                have ft1 := HLb.out.t1
                have fx1 := HLb.out.x1
                have fx2 := HLb.out.x2
                by_cases h3 : 1 < k
                rotate_left
                · have h3b : decide ((1 : Int) < (k : Int)) = false := decide_eq_false (by omega)
                  have HGG := hide (HGN.out (HLP.out.2 ⟨fun _ => ⟨H1.out, H2.out, fun h => absurd h h3⟩, fun h => by omega⟩))
                  clear h3
                  go_upto_region 25 with fail
                  go_quiet (fail)
                  go_wp2_with fail
                  go_roundw
                  case rel => exact ⟨k + 1, by omega, by omega, by go_num, hide (HBA.out _ (HBb.out.trans ((Go.below_drewN (Below.refl _ _) _).mono HBb.out.size))).2, HGG⟩
                  case measure => simp [intOf]; omega
                have h3b : decide ((1 : Int) < (k : Int)) = true := decide_eq_true (by omega)
                by_cases h4 : tn = 1
                rotate_left
                · have h4b : (tn != 1) = true := by simpa using h4
                  have HNO := hide (HNR.out (fun h => h4 (((HLP.out.1 h).1 rfl).2.2 h3).1))
                  clear h3 h4
                  go_upto_region 25 with fail
                  go_quiet (fail)
                  go_wp2_with fail
                  go_ret
                  exact rg_no HNO.out (HBA.out _ (HBb.out.trans ((Go.below_drewN (Below.refl _ _) _).mono HBb.out.size))).1
                have h4b : (tn != 1) = false := by simp [h4]
                by_cases h5 : tf = p
                rotate_left
                · have h5b : (tf != p) = true := by simpa using h5
                  have HNO := hide (HNR.out (fun h => h5 (((HLP.out.1 h).1 rfl).2.2 h3).2))
                  clear h3 h4 h5
                  go_upto_region 25 with fail
                  go_quiet (fail)
                  go_wp2_with fail
                  go_ret
                  exact rg_no HNO.out (HBA.out _ (HBb.out.trans ((Go.below_drewN (Below.refl _ _) _).mono HBb.out.size))).1
                have h5b : (tf != p) = false := by simp [h5]
                have HGG := hide (HGN.out (HLP.out.2 ⟨fun _ => ⟨H1.out, H2.out, fun _ => ⟨h4, h5⟩⟩, fun h => by omega⟩))
                clear h3 h4 h5
                go_upto_region 25 with fail
                go_quiet (fail)
                go_wp2_with fail
                go_roundw
                case rel => exact ⟨k + 1, by omega, by omega, by go_num, hide (HBA.out _ (HBb.out.trans ((Go.below_drewN (Below.refl _ _) _).mono HBb.out.size))).2, HGG⟩
                case measure => simp [intOf]; omega
              have hk2b : (kd == 2) = false := by simpa using hk2
              by_cases hk1 : kd = 1
              · subst hk1
                clear hk2 hk2b
                by_cases h1 : l = tn
                rotate_left
                · have h1b : (l != tn) = true := by simpa using h1
                  have HNO := hide (HNR.out (fun h => h1 ((HLP.out.1 h).2 (by omega)).1))
                  clear h1
                  go_upto_region 29 with fail
                  go_quiet (fail)
                  go_wp2_with fail
                  go_ret
                  exact rg_no HNO.out (HBA.out _ (Go.below_drewN (Below.refl _ _) _)).1
                have h1b : (l != tn) = false := by simp [h1]
                by_cases h2 : 1 ≤ l
                rotate_left
                · have h2b : decide (l < 1) = true := decide_eq_true (by omega)
                  have HNO := hide (HNR.out (fun h => h2 ((HLP.out.1 h).2 (by omega)).2.1))
                  clear h1 h2
                  go_upto_region 29 with fail
                  go_quiet (fail)
                  go_wp2_with fail
                  go_ret
                  exact rg_no HNO.out (HBA.out _ (Go.below_drewN (Below.refl _ _) _)).1
                have h2b : decide (l < 1) = false := decide_eq_false (by omega)
                by_cases h3 : l ≤ 1000
                rotate_left
                · have h3b : decide ((1000 : Int) < l) = true := decide_eq_true (by omega)
                  have HNO := hide (HNR.out (fun h => h3 ((HLP.out.1 h).2 (by omega)).2.2))
                  clear h1 h2 h3
                  go_upto_region 29 with fail
                  go_quiet (fail)
                  go_wp2_with fail
                  go_ret
                  exact rg_no HNO.out (HBA.out _ (Go.below_drewN (Below.refl _ _) _)).1
                have h3b : decide ((1000 : Int) < l) = false := decide_eq_false (by omega)
                have HGG := hide (HGN.out (HLP.out.2 ⟨fun h => by omega, fun _ => ⟨h1, h2, h3⟩⟩))
                clear h1 h2 h3
                go_upto_region 29 with fail
                go_quiet (fail)
                go_wp2_with fail
                go_roundw
                case rel => exact ⟨k + 1, by omega, by omega, by go_num, hide (HBA.out _ (Go.below_drewN (Below.refl _ _) _)).2, HGG⟩
                case measure => simp [intOf]; omega
              have hk1b : (kd == 1) = false := by simpa using hk1
              by_cases hk3 : kd = 3
              · subst hk3
                clear hk2 hk2b hk1
                by_cases h1 : l = tn
                rotate_left
                · have h1b : (l != tn) = true := by simpa using h1
                  have HNO := hide (HNR.out (fun h => h1 ((HLP.out.1 h).2 (by omega)).1))
                  clear h1
                  go_upto_region 29 with fail
                  go_quiet (fail)
                  go_wp2_with fail
                  go_ret
                  exact rg_no HNO.out (HBA.out _ (Go.below_drewN (Below.refl _ _) _)).1
                have h1b : (l != tn) = false := by simp [h1]
                by_cases h2 : 1 ≤ l
                rotate_left
                · have h2b : decide (l < 1) = true := decide_eq_true (by omega)
                  have HNO := hide (HNR.out (fun h => h2 ((HLP.out.1 h).2 (by omega)).2.1))
                  clear h1 h2
                  go_upto_region 29 with fail
                  go_quiet (fail)
                  go_wp2_with fail
                  go_ret
                  exact rg_no HNO.out (HBA.out _ (Go.below_drewN (Below.refl _ _) _)).1
                have h2b : decide (l < 1) = false := decide_eq_false (by omega)
                by_cases h3 : l ≤ 1000
                rotate_left
                · have h3b : decide ((1000 : Int) < l) = true := decide_eq_true (by omega)
                  have HNO := hide (HNR.out (fun h => h3 ((HLP.out.1 h).2 (by omega)).2.2))
                  clear h1 h2 h3
                  go_upto_region 29 with fail
                  go_quiet (fail)
                  go_wp2_with fail
                  go_ret
                  exact rg_no HNO.out (HBA.out _ (Go.below_drewN (Below.refl _ _) _)).1
                have h3b : decide ((1000 : Int) < l) = false := decide_eq_false (by omega)
                have HGG := hide (HGN.out (HLP.out.2 ⟨fun h => by omega, fun _ => ⟨h1, h2, h3⟩⟩))
                clear h1 h2 h3
                go_upto_region 29 with fail
                go_quiet (fail)
                go_wp2_with fail
                go_roundw
                case rel => exact ⟨k + 1, by omega, by omega, by go_num, hide (HBA.out _ (Go.below_drewN (Below.refl _ _) _)).2, HGG⟩
                case measure => simp [intOf]; omega
              have hk3b : (kd == 3) = false := by simpa using hk3
              have HGG := hide (HGN.out (HLP.out.2 ⟨fun h => absurd h hk2, fun h => by omega⟩))
              clear hk1 hk2 hk3
              go_wp2_with fail
              go_roundw
              case rel => exact ⟨k + 1, by omega, by omega, by go_num, hide (HBA.out _ (Below.refl _ _)).2, HGG⟩
              case measure => simp [intOf]; omega
            · have hkN : k = N := by omega
              have HLA := hide (show ∀ i, 1 ≤ i → i < L.length → LnkP L i from fun i h1 h2 => HG6.out i h1 (by rw [hkN, HN.out]; exact h2))
              have HE3 := hide ((entTo_iff snap_name ⟨by have := HN.out; omega, HROOT.out.1⟩).1 HET.out)
              have HKD := hide (show ∀ i, 1 ≤ i → i < L.length → (ndAt L i).k = 0 ∨ (1 ≤ (ndAt L i).k ∧ (ndAt L i).k ≤ 3) from fun i h1 hi => by
                rcases HALL.out i h1 hi with h | h
                · exact .inl (by rw [(freeN_iff _).1 h]; rfl)
                · exact .inr (plain_kind h))
              have HZ0 := hide (show (ndAt L 0).k = 0 from by rw [(freeN_iff _).1 HF0.out]; rfl)
              have HST := hide (stC_of (L := L) ⟨by have := HN.out; omega, HROOT.out.1⟩ HZ0.out HKD.out HE3.out.2.1 (fun i h2 hi hd => by
                have h3 := ((HLA.out i (by omega) hi).1 hd).2.2 (by omega)
                rw [tn_names] at h3
                omega) (fun i h1 hi hf => by
                have h3 := (HLA.out i h1 hi).2 hf
                rw [tn_names] at h3
                omega))
              have KRr := hide (KR6.out.below HF6.out KR6.out.lt)
              have HRr := hide (HR6.out.below HF6.out)
              have HBr := hide (HB6.out.trans (HF6.out.mono HB6.out.size))
              have HNNE := hide (show ∀ i, i < L.length → 0 ≤ (ndAt L i).k from fun i hi => by
                rcases Nat.eq_zero_or_pos i with h0 | h0
                · rw [h0, HZ0.out]; exact Int.le_refl _
                · have := HKD.out i h0 hi; omega)
              clear HG6
              go_wp2_with (first | (refine wpList_load_row rfl 29 _ rfl w.heap.size rfl 29 #[.int .i64 C, .slice (some ⟨b, ofb, none⟩) N cap] (0, 0) _ KRr.out Tryz.underlying29 rfl infoSt ?_) | (go_at_call 59; fail))
              refine (reached_any C (.slice (some ⟨b, ofb, none⟩) N cap) L vs wr HRr.out (by rw [← HN.out]; exact hL) HBD.out HET.out HST.out HNNE.out).mono ?_
              rintro r w7 ⟨bb, rfl, hbb, b7⟩
              have HRES := hide (show RgR C L w w7 (.returned (.bool bb)) from ⟨bb, rfl, hbb.trans ⟨fun h => HIFF.out.2 ⟨HET.out, HLA.out, h⟩, fun h => (HIFF.out.1 h).2.2⟩, HBr.out.trans (b7.mono HBr.out.size)⟩)
              clear hbb b7
              go_wp2_with fail
              go_ret
              exact HRES.out
end Go.Proofs.YtplieplmhdfndaaGreatDoor
