/- The model's l07Reached. -/
import Derived.Test.YtplieplmhdfndaaGreatDoorZg19
namespace Go.Proofs.YtplieplmhdfndaaGreatDoor
set_option linter.unusedVariables false
set_option linter.unusedSimpArgs false
open Go.RowKit

theorem infoBo : (Tryz.prog.info? 4).map (fun i => (i.zero, i.size, i.bytes)) = some (some (.bool false), 1, 1) := by kernel_rfl
theorem falses_row (N : Nat) : madeCells #[Value.bool false] N = seenC N (fun _ => false) := by
  unfold seenC
  apply Array.ext'
  rw [toList_madeCells_one]
  apply List.ext_getElem?
  intro i
  by_cases hi : i < N <;> simp [hi]
/-- Numbers as integers. -/
def qI (T : List Nat) : List Int := T.map (fun (x : Nat) => (x : Int))
theorem qI_len (T : List Nat) : (qI T).length = T.length := by simp [qI]
/-- In the midst of a walk: what was seen, and the queue. -/
structure RqI (L : List Nd) (W1 : World) (gs base : Nat) (T : List Nat) (Q : List (Nat × Nat)) (wr : World) (g off cap : Nat) : Prop where
  seen : Blk wr gs (seenC L.length (seenF Q)) 4
  lo : W1.heap.size ≤ gs
  gb : gs < base
  q : Qu base wr g off cap (qI T)
  bel : Below W1.heap.size W1 wr
theorem RqI.below {L : List Nd} {W1 wr w' : World} {gs base g off cap : Nat} {T : List Nat} {Q : List (Nat × Nat)} (h : RqI L W1 gs base T Q wr g off cap) (hb : Below wr.heap.size wr w') : RqI L W1 gs base T Q w' g off cap :=
  ⟨h.seen.below hb h.seen.lt, h.lo, h.gb, h.q.kept hb.size (hb.block _ h.q.lt), h.bel.trans (hb.mono h.bel.size)⟩
theorem RqI.mark {L : List Nd} {W1 wr : World} {gs base g off cap : Nat} {T : List Nat} {Q : List (Nat × Nat)} (h : RqI L W1 gs base T Q wr g off cap) (e : Nat × Nat) : RqI L W1 gs base T (Q ++ [e]) (wr.setCell ⟨gs, e.1, none⟩ (.bool true)) g off cap := by
  have hne : g ≠ gs := by have := h.gb; have := h.q.lo; omega
  refine ⟨?_, h.lo, h.gb, h.q.kept (by simp) (Below.heap_setCell wr ⟨gs, e.1, none⟩ _ g hne), h.bel.setCell h.lo _⟩
  have := h.seen.set e.1 (.bool true)
  have hf : ∀ j, j < L.length → j ≠ e.1 → seenF (Q ++ [e]) j = seenF Q j := fun j _ hj => by
    have hb : (e.1 == j) = false := by simpa using fun h => hj h.symm
    rw [seenF_snoc, hb, Bool.or_false]
  rw [seenC_set L.length (seenF Q) (seenF (Q ++ [e])) e.1 hf (by rw [seenF_snoc]; simp)] at this
  exact this
theorem seen_again (N : Nat) (Q : List (Nat × Nat)) (e : Nat × Nat) (h : seenF Q e.1 = true) : seenF (Q ++ [e]) = seenF Q := by
  funext j
  rw [seenF_snoc]
  by_cases hj : e.1 = j
  · subst hj; rw [h]; rfl
  · have : (e.1 == j) = false := by simpa using hj
    rw [this, Bool.or_false]
theorem RqI.again {L : List Nd} {W1 wr : World} {gs base g off cap : Nat} {T : List Nat} {Q : List (Nat × Nat)} (h : RqI L W1 gs base T Q wr g off cap) (e : Nat × Nat) (he : seenF Q e.1 = true) : RqI L W1 gs base T (Q ++ [e]) wr g off cap :=
  ⟨by rw [seen_again L.length Q e he]; exact h.seen, h.lo, h.gb, h.q, h.bel⟩
/-- The directories among the first j entries. -/
def chT (es : List (ByteArray × Nat × Nat)) (j : Nat) : List Nat := ((es.take j).filter (fun e => e.2.2 == 2)).map (fun e => e.2.1)
theorem chT_dir {es : List (ByteArray × Nat × Nat)} {j : Nat} {e : ByteArray × Nat × Nat} (h : es[j]? = some e) (h2 : e.2.2 = 2) : chT es (j + 1) = chT es j ++ [e.2.1] := by
  unfold chT
  rw [List.take_add_one, h, List.filter_append, List.map_append]
  simp [h2]
theorem chT_file {es : List (ByteArray × Nat × Nat)} {j : Nat} {e : ByteArray × Nat × Nat} (h : es[j]? = some e) (h2 : e.2.2 ≠ 2) : chT es (j + 1) = chT es j := by
  unfold chT
  rw [List.take_add_one, h, List.filter_append, List.map_append]
  simp [h2]
theorem chT_le (es : List (ByteArray × Nat × Nat)) (j : Nat) : (chT es j).length ≤ es.length := by
  unfold chT
  rw [List.length_map]
  exact Nat.le_trans (List.length_filter_le _ _) (by rw [List.length_take]; omega)
theorem RqI.push {L : List Nd} {W1 wr w' : World} {gs base g off cap g' off' cap' : Nat} {T : List Nat} {Q : List (Nat × Nat)} {x : Nat} (h : RqI L W1 gs base T Q wr g off cap) (hq : Qu base w' g' off' cap' (qI T ++ [(x : Int)])) (hg : wr.grownBy w' (some g)) : RqI L W1 gs base (T ++ [x]) Q w' g' off' cap' := by
  have hne : gs ≠ g := by have := h.gb; have := h.q.lo; omega
  have hlo := h.lo
  have hgb := h.gb
  have hql := h.q.lo
  refine ⟨(hg.block gs h.seen.lt (by simpa using hne)).trans h.seen, h.lo, h.gb, by rw [show qI (T ++ [x]) = qI T ++ [(x : Int)] by simp [qI]]; exact hq, ?_⟩
  exact h.bel.trans ⟨hg.os, hg.tape, hg.output, hg.size, fun k hk => hg.block k (Nat.lt_of_lt_of_le hk h.bel.size) (fun e => by injection e with e; omega)⟩
theorem leastP (p : Nat → Prop) : ∀ n, p n → ∃ m, p m ∧ ∀ k, p k → m ≤ k := by
  intro n
  induction n using Nat.strongRecOn with
  | ind n ih =>
    intro hp
    rcases Classical.em (∃ k, k < n ∧ p k) with ⟨k, hk, hpk⟩ | hno
    · exact ih k hk hpk
    · exact ⟨n, hp, fun k hk => Nat.le_of_not_lt fun h => hno ⟨k, h, hk⟩⟩
open Classical in
noncomputable def leastN (p : Nat → Prop) : Nat := if h : ∃ m, p m ∧ ∀ k, p k → m ≤ k then Classical.choose h else 0
theorem leastN_of (p : Nat → Prop) (n : Nat) (h : p n) : p (leastN p) ∧ leastN p ≤ n := by
  have hl := leastP p n h
  unfold leastN
  rw [dif_pos hl]
  exact ⟨(Classical.choose_spec hl).1, (Classical.choose_spec hl).2 n h⟩
/-- The walk's state, with n directories at most to come. -/
def InvQ (L : List Nd) (W1 : World) (gs base : Nat) (qv : Value) (wr : World) (n : Nat) : Prop := ∃ P T g off cq, qv = .slice (some ⟨g, off, none⟩) T.length cq ∧ BqI L P T ∧ RqI L W1 gs base T (P.flatMap (numE L)) wr g off cq ∧ n + P.length = L.length
noncomputable def mq (L : List Nd) (W1 : World) (gs base : Nat) (qv : Value) (wr : World) : Nat := leastN (InvQ L W1 gs base qv wr)
set_option maxRecDepth 100000 in
set_option maxHeartbeats 8000000 in
theorem reached_any (C : Int) (v : Value) (L : List Nd) (vs : List Value) (w : World) (h : RdN w 9 v (L.map ndE) vs) (hL : L.length ≤ 1048576) (hbd : ∀ i, i < L.length → ∀ z ∈ (ndAt L i).d, 0 ≤ z ∧ z < 256)
    (hE : EntTo L L.length) (hS : StC L.length (numE L) (kdN L)) (hk : ∀ i, i < L.length → 0 ≤ (ndAt L i).k) :
    Calls Tryz.prog 59 #[.agg #[.int .i64 C, v]] w fun e w' => ∃ b, e = .returned (.bool b) ∧ (b = true ↔ (bfs (chE (numE L)) L.length [] [1]).length = ((List.range L.length).filter (kdN L · == 2)).length) ∧ Below w.heap.size w w' := by
  obtain ⟨a, cap, rfl, _⟩ := h.row
  rw [List.length_map] at h ⊢
  obtain ⟨N, hN⟩ : ∃ N, N = L.length := ⟨_, rfl⟩
  have hN1 : 1 < N := by rw [hN]; exact hS.root.1
  rw [← hN] at h hL ⊢
  have HN := hide hN
  have HR := hide h
  have HBD := hide hbd
  have HEN := hide hE
  have HST := hide hS
  have HKD := hide hk
  clear hN h hbd hE hS hk
  obtain ⟨W1, hW1⟩ : ∃ W1, W1 = w.alloc (.cells #[.int .i64 C, .slice a N cap] 29) := ⟨_, rfl⟩
  have b1 : Below w.heap.size w W1 := by rw [hW1]; exact (Below.refl _ _).alloc (Nat.le_refl _) _
  have k1 : Blk W1 w.heap.size #[.int .i64 C, .slice a N cap] 29 := by rw [hW1]; exact Blk.new w _ _
  have c1 := (k1.cell 1).trans (show _ = some (.slice a N cap) from rfl)
  have HR1 := hide (HR.out.below b1)
  have HB1 := hide b1
  have HW1 := hide hW1
  have K1 := hide k1
  clear b1 k1 hW1 HR
  have hmk := fun W => run_make_row' (P := Tryz.prog) 166 4 (.bool false) 1 Tryz.underlying166 infoBo rfl .i64 .i64 N (by omega) (by omega) W
  simp only [falses_row] at hmk
  generalize hz : seenC N (fun _ => false) = Z at hmk
  have HZ := hide hz
  clear hz
  go_enter Tryz.func59, Tryz.ntmps59
  go_upto_region 1 with fail
  rw [← HW1.out]
  go_upto_region 2 with fail
  obtain ⟨W2, hW2⟩ : ∃ W2, W2 = W1.alloc (.cells Z 4) := ⟨_, rfl⟩
  rw [← hW2]
  have kz : Blk W2 W1.heap.size (seenC N (fun _ => false)) 4 := by rw [hW2, HZ.out]; exact Blk.new W1 _ _
  have hs2 : W2.heap.size = W1.heap.size + 1 := by rw [hW2]; simp
  have BZ := hide (show Below W1.heap.size W1 W2 from by rw [hW2]; exact (Below.refl _ _).alloc (Nat.le_refl _) _)
  have x1 : W2.cell? ⟨W1.heap.size, 1, none⟩ = some (.bool false) := (kz.cell 1).trans (seenC_get N _ 1 hN1)
  have y1 := kz.frozen 1
  have HK := hide (show Blk (W2.setCell ⟨W1.heap.size, 1, none⟩ (.bool true)) W1.heap.size (seenC N (seenF [])) 4 from by
    have := kz.set 1 (.bool true)
    rw [seenC_set N (fun _ => false) (seenF []) 1 (fun j _ hj => by unfold seenF; simp [hj]) rfl] at this
    exact this)
  clear hmk HZ kz hW2
  go_upto_region 3 with fail
  obtain ⟨W3, hW3⟩ : ∃ W3, W3 = W2.setCell ⟨W1.heap.size, 1, none⟩ (.bool true) := ⟨_, rfl⟩
  rw [← hW3] at HK ⊢
  have hs3 : W3.heap.size = W1.heap.size + 1 := by rw [hW3]; simp [hs2]
  have B3 := hide (show Below W1.heap.size W1 W3 from by rw [hW3]; exact BZ.out.setCell (Nat.le_refl _) _)
  clear hW3 x1 y1 BZ
  obtain ⟨W4, hW4⟩ : ∃ W4, W4 = W3.alloc (.cells #[.int .i64 1] 3) := ⟨_, rfl⟩
  have HQ0 := hide (show RqI L W1 W1.heap.size (W1.heap.size + 1) [1] [] W4 (W1.heap.size + 1) 0 1 from by
    rw [← hs3]
    have kq : Blk W4 W3.heap.size #[.int .i64 1] 3 := by rw [hW4]; exact Blk.new W3 _ _
    refine ⟨by rw [hW4, ← HN.out]; exact HK.out.alloc _, Nat.le_refl _, by omega, ⟨Nat.le_refl _, kq.lt, Nat.le_refl _, fun i hi => ?_, fun i hi => ?_⟩, by rw [hW4]; exact B3.out.alloc B3.out.size _⟩
    · simp [qI] at hi; subst hi; exact (kq.cell 0).trans rfl
    · have : i = 0 := by omega
      subst this; exact ⟨by rw [kq.cell]; rfl, kq.frozen _⟩)
  have HW4 := hide hW4
  clear hW4
  go_wp2_with fail
  rw [← HW4.out]
  generalize hgs : W1.heap.size = gs at HQ0 ⊢
  have HI0 := hide (show InvQ L W1 gs (gs + 1) (.slice (some ⟨gs + 1, 0, none⟩) 1 1) W4 L.length from ⟨[], [1], gs + 1, 0, 1, rfl, BqI.start HST.out, HQ0.out, rfl⟩)
  have HG := hide hgs
  clear HK HW4 hs2 hs3 B3 HQ0 hgs
  go_loopw [4] (fun qv wr => ∃ n, Hid (InvQ L W1 gs (gs + 1) qv wr n)) (fun qv wr => mq L W1 gs (gs + 1) qv wr)
  case atStart => exact ⟨_, HI0⟩
  case round =>
    obtain ⟨n0, HI⟩ := hrel
    clear HI0
    obtain ⟨P, T, g, off, cq, rfl, hB, hQ, hn⟩ := (leastN_of _ n0 HI.out).1
    have HB := hide hB
    have HQ := hide hQ
    have HMQ := hide (show mq L W1 gs (gs + 1) (.slice (some ⟨g, off, none⟩) T.length cq) wr + P.length = L.length from hn)
    have hTl := hB.bf.len
    clear hB hQ hn HI
    cases T with
    | nil =>
      have HQN := hide HQ.out
      have c1' : wr.cell? ⟨w.heap.size, 1, none⟩ = some (.slice a N cap) := (HQ.out.bel.cell (p := ⟨w.heap.size, 1, none⟩) K1.out.lt).trans c1
      rw [List.length_nil] at hTl HMQ ⊢
      clear HMQ
      have HQ := hide (show ∃ Q, Q = P.flatMap (numE L) from ⟨_, rfl⟩)
      obtain ⟨Q, hQ⟩ := HQ.out
      rw [← hQ] at HQN
      have HFQ := hide hQ
      clear HQ hQ
      have HALL := hide (show (∀ k, k < N → (ndAt L k).k ≠ 0 → seenF Q k = true) ↔ (bfs (chE (numE L)) N [] [1]).length = ((List.range N).filter (kdN L · == 2)).length from by
        have := reached_iff HST.out HKD.out HB.out
        rw [← HFQ.out, ← HN.out] at this
        exact this)
      go_wp2_with fail
      go_loopw [65] (fun iv wx => ∃ k : Nat, k ≤ N ∧ iv = .int .i64 (k : Int) ∧ Hid (RqI L W1 gs (gs + 1) [] Q wx g off cq) ∧ Hid (∀ i, i < k → (ndAt L i).k ≠ 0 → seenF Q i = true)) (fun iv _ => N - (intOf iv).toNat)
      case atStart => exact ⟨0, Nat.zero_le _, rfl, HQN, fun i hi => by omega⟩
      case round =>
        obtain ⟨k, hk, rfl, HI, HG⟩ := hrel
        clear HQN c1'
        by_cases hlt : k < N
        · obtain ⟨b, ofb, cap', na, nc, e0, hb, hr, _, hrange⟩ := node_at (HR1.out.below HI.out.bel) (i := k) (by rw [← HN.out]; exact hlt)
          injection e0 with e1 e2 e3
          subst e1 e3
          have HRG := hide hrange
          obtain ⟨x, hx⟩ : ∃ x, x = ndAt L k := ⟨_, rfl⟩
          rw [← hx] at HRG
          have HX := hide hx
          generalize x.d.length = q at HRG
          clear hr hrange hx e2 hb
          obtain ⟨Wa, hWa⟩ : ∃ Wa, Wa = wr.alloc (.cells #[.int .i64 x.k, .int .i64 x.l, .int .i64 x.m, .int .i64 x.u, .int .i64 x.g, .int .i64 x.p, .int .i64 x.e, .int .i64 x.t, .int .i64 x.c, .slice na q nc] 56) := ⟨_, rfl⟩
          have ba : Below wr.heap.size wr Wa := by rw [hWa]; exact (Below.refl _ _).alloc (Nat.le_refl _) _
          have HIa := hide (HI.out.below ba)
          have c0 : Wa.cell? ⟨wr.heap.size, 0, none⟩ = some (.int .i64 x.k) := by rw [hWa]; exact ((Blk.new wr _ _).cell 0).trans rfl
          obtain ⟨s, hs⟩ : ∃ s, s = seenF Q k := ⟨_, rfl⟩
          have x1 : Wa.cell? ⟨gs, k, none⟩ = some (.bool s) := (HIa.out.seen.cell k).trans (by rw [seenC_get _ _ _ (by rw [← HN.out]; exact hlt), hs])
          have HS := hide hs
          have HWa := hide hWa
          clear hWa ba HI hs
          go_upto_region 19 with (refine wpList_load_mid rfl 56 _ rfl b (ofb + k * 10) rfl [.int .i64 x.k, .int .i64 x.l, .int .i64 x.m, .int .i64 x.u, .int .i64 x.g, .int .i64 x.p, .int .i64 x.e, .int .i64 x.t, .int .i64 x.c, .slice na q nc] _ HRG.out Tryz.underlying56 rfl infoNd ?_)
          rw [← HWa.out]
          clear HWa HRG
          have HBW := hide (HB1.out.trans (HIa.out.bel.mono HB1.out.size))
          by_cases hk0 : x.k = 0
          · have hk1 : (x.k != 0) = false := by simp [hk0]
            have HG2 := hide (show ∀ i, i < k + 1 → (ndAt L i).k ≠ 0 → seenF Q i = true from fun i hi hne => by
              rcases Nat.lt_or_ge i k with h | h
              · exact HG.out i h hne
              · have : i = k := by omega
                subst this
                rw [← HX.out] at hne
                exact absurd hk0 hne)
            clear hk0
            go_wp2_with fail
            go_roundw
            case rel => exact ⟨k + 1, by omega, by go_num, HIa, HG2⟩
            case measure => simp [intOf]; omega
          · have hk1 : (x.k != 0) = true := by simp [hk0]
            cases s with
            | true =>
              have HG2 := hide (show ∀ i, i < k + 1 → (ndAt L i).k ≠ 0 → seenF Q i = true from fun i hi hne => by
                rcases Nat.lt_or_ge i k with h | h
                · exact HG.out i h hne
                · have : i = k := by omega
                  subst this
                  exact HS.out.symm)
              clear hk0
              go_wp2_with fail
              go_roundw
              case rel => exact ⟨k + 1, by omega, by go_num, HIa, HG2⟩
              case measure => simp [intOf]; omega
            | false =>
              have HNO := hide (show ¬ (bfs (chE (numE L)) N [] [1]).length = ((List.range N).filter (kdN L · == 2)).length from fun h => by
                have := HALL.out.2 h k hlt (by rw [← HX.out]; exact hk0)
                rw [← HS.out] at this
                cases this)
              clear hk0
              go_wp2
              go_ret
              exact ⟨false, rfl, ⟨fun h => (by cases h), fun h => absurd h HNO.out⟩, HBW.out⟩
        · have HYES := hide (show (bfs (chE (numE L)) N [] [1]).length = ((List.range N).filter (kdN L · == 2)).length from HALL.out.1 (fun i hi hne => HG.out i (by omega) hne))
          have HBW := hide (HB1.out.trans (HI.out.bel.mono HB1.out.size))
          go_wp2
          go_ret
          exact ⟨true, rfl, ⟨fun _ => HYES.out, fun _ => rfl⟩, HBW.out⟩
    | cons x T =>
      have hx := HB.out.dir HST.out (x := x) (by simp)
      have hxN : x < N := by rw [HN.out]; exact hx.1
      have HX2 := hide hx.2
      have cx : wr.cell? ⟨g, off, none⟩ = some (.int .i64 (x : Int)) := by have := HQ.out.q.el 0 (by simp [qI]); rw [Nat.add_zero] at this; rw [this]; rfl
      have hcq := HQ.out.q.le
      rw [qI_len] at hcq
      rw [List.length_cons] at hcq hTl HMQ ⊢
      obtain ⟨t, ht⟩ : ∃ t, t = T.length := ⟨_, rfl⟩
      rw [← ht] at hcq hTl HMQ ⊢
      have HT := hide ht
      clear ht hx
      have HZB := hide (HBD.out x (by rw [← HN.out]; exact hxN))
      have HDO := hide (show dirOk (ndAt L x).d = true from (HEN.out x (by rw [← HN.out]; exact hxN) HX2.out).1)
      have hc1' : wr.cell? ⟨w.heap.size, 1, none⟩ = some (.slice a N cap) := (HQ.out.bel.cell (p := ⟨w.heap.size, 1, none⟩) K1.out.lt).trans c1
      obtain ⟨b, ofb, cap', na, nc, e0, hb, hr, _, hrange⟩ := node_at (HR1.out.below HQ.out.bel) (i := x) (by rw [← HN.out]; exact hxN)
      injection e0 with e1 e2 e3
      subst e1 e3
      have HRD := hide hr
      have c9 : wr.cell? ⟨b, ofb + x * 10 + 9, none⟩ = some (.slice na (ndAt L x).d.length nc) := hrange 9 _ rfl
      clear hr hrange e2 hb
      generalize hdl : (ndAt L x).d.length = q at HRD c9
      have HDL := hide hdl
      clear hdl
      have hQ2 : ∃ o2 c2, o2 = (if cq = 1 then off else off + 1) ∧ c2 = cq - 1 ∧ RqI L W1 gs (gs + 1) T (P.flatMap (numE L)) wr g o2 c2 := by
        refine ⟨_, _, rfl, rfl, HQ.out.seen, HQ.out.lo, HQ.out.gb, ?_, HQ.out.bel⟩
        by_cases hc1 : cq = 1
        · have h0 : T = [] := List.eq_nil_of_length_eq_zero (by have := HT.out; omega)
          rw [if_pos hc1, h0, hc1]
          exact HQ.out.q.nil
        · rw [if_neg hc1]
          exact HQ.out.q.tail
      obtain ⟨o2, c2, ho2, hc2, hQ2⟩ := hQ2
      have HQ2 := hide hQ2
      clear hQ2
      by_cases hc1 : cq = 1
      · subst hc1
        rw [if_pos rfl] at ho2
        subst ho2
        have hc2' : c2 = 0 := by omega
        subst hc2'
        have htz : t = 0 := by omega
        have HTZ := hide htz
        clear hc2 htz
        go_upto_region 7 with fail
        clear cx hcq
        go_wp2_with (go_at_call 93; fail)
        refine (entries_any _ (ndAt L x).d wr HRD.out HZB.out).mono ?_
        rintro r w2 ⟨v', rfl, hes, b2⟩
        rw [HDO.out] at hes ⊢
        obtain ⟨es, het, hown⟩ := hes rfl
        have HES := hide (show entN (ndAt L x) = es from by unfold entN; rw [if_pos HX2.out, het]; rfl)
        have hel : es.length ≤ 8192 := by have h1 := ent_len het; have h2 := dirOk_lenQ HDO.out; omega
        have HQ3 := hide (HQ2.out.below b2)
        obtain ⟨sz, hsz⟩ : ∃ sz, sz = wr.heap.size := ⟨_, rfl⟩
        rw [← hsz] at hown
        have HOW := hide hown
        have HSZ := hide (show g < sz ∧ gs < sz from by rw [hsz]; exact ⟨HQ2.out.q.lt, HQ2.out.seen.lt⟩)
        clear hes b2 het hown c9 HRD hsz HQ2
        obtain ⟨m, hm⟩ : ∃ m, m = es.length := ⟨_, rfl⟩
        rw [← hm] at HOW hel
        have HM := hide hm
        clear hm
        obtain ⟨ea, ec, rfl⟩ := own_shape HOW.out
        have HN0 := hide (show ∀ k : Addr, ea = some k → k.block ≠ g from fun k hk e => by
          have h1 := (HOW.out.lt k.block (by rw [hk]; rfl)).1
          have h2 := HSZ.out.1
          omega)
        have ht0 : t = (T ++ chT es 0).length := by rw [HT.out]; simp [chT]
        have HQ4 := hide (show RqI L W1 gs (gs + 1) (T ++ chT es 0) (P.flatMap (numE L) ++ (es.take 0).map (fun e => e.2)) w2 g o2 0 from by
          rw [List.take_zero, List.map_nil, List.append_nil, show chT es 0 = [] from rfl, List.append_nil]; exact HQ3.out)
        have HT0 := hide ht0
        clear ht0 HQ3 hc1'
        go_wp2_with fail
        go_loopw [4, 39] (fun qv jv wx => ∃ j g' o' c', j ≤ m ∧ jv = .int .i64 (j : Int) ∧ qv = .slice (some ⟨g', o', none⟩) (T ++ chT es j).length c' ∧ Hid (RqI L W1 gs (gs + 1) (T ++ chT es j) (P.flatMap (numE L) ++ (es.take j).map (fun e => e.2)) wx g' o' c') ∧ Hid (wx.ownsRow sz 61 3 (.slice ea m ec) m (entsC es)) ∧ Hid (∀ k : Addr, ea = some k → k.block ≠ g')) (fun _ jv _ => m - (intOf jv).toNat)
        case atStart => exact ⟨0, g, o2, 0, Nat.zero_le _, rfl, by rw [← HT0.out]; rw [HTZ.out], HQ4, HOW, HN0⟩
        case round =>
          obtain ⟨j, g', o', c', hj, rfl, rfl, HI, HOJ, HNE⟩ := hrel
          clear HQ4 HOW HN0 HT0
          have hlb : (T ++ chT es j).length ≤ 16777216 := by
            have h1 := chT_le es j
            have h2 := HM.out
            have h3 := HT.out
            have h4 := HN.out
            rw [List.length_append]
            omega
          obtain ⟨l, hl⟩ : ∃ l, l = (T ++ chT es j).length := ⟨_, rfl⟩
          rw [← hl] at hlb ⊢
          have HLL := hide hl
          clear hl
          by_cases hjm : j < m
          · obtain ⟨e, he⟩ : ∃ e, es[j]? = some e := ⟨_, List.getElem?_eq_getElem (by rw [← HM.out]; exact hjm)⟩
            have HEJ := hide he
            clear he
            obtain ⟨nm, ino, kd⟩ := e
            obtain ⟨eb, rfl⟩ : ∃ eb, ea = some ⟨eb, 0, none⟩ := by
              rcases HOJ.out.2 with ⟨_, h0⟩ | ⟨g', c', cur, e', _⟩
              · omega
              · injection e' with e'
                exact ⟨g', e'⟩
            have HRE := hide (ent_rangeS HOJ.out HEJ.out)
            have hin : ino < N := by
              have hm2 : (ino, kd) ∈ numE L x := by unfold numE; rw [HES.out]; exact List.mem_map.2 ⟨(nm, ino, kd), List.mem_of_getElem? HEJ.out, rfl⟩
              rw [HN.out]
              exact (HST.out.ok x (by rw [← HN.out]; exact hxN) _ hm2).2.1
            have HFR := hide (show kd = 2 → seenF (P.flatMap (numE L) ++ (es.take j).map (fun e => e.2)) ino = false from fun h2 => by
              have := fresh HST.out HB.out (j := j) (e := (nm, ino, kd)) (by rw [HES.out]; exact HEJ.out) h2
              rw [HES.out] at this
              exact this)
            have HQN := hide (show (P.flatMap (numE L) ++ (es.take j).map (fun e => e.2)) ++ [(ino, kd)] = P.flatMap (numE L) ++ (es.take (j + 1)).map (fun e => e.2) from by rw [List.take_add_one, HEJ.out, List.map_append, ← List.append_assoc]; rfl)
            obtain ⟨Q, hQ⟩ : ∃ Q, Q = P.flatMap (numE L) ++ (es.take j).map (fun e => e.2) := ⟨_, rfl⟩
            rw [← hQ] at HFR HQN HI
            clear hQ
            obtain ⟨dq, hdq⟩ : ∃ dq, dq = wr.heap.size := ⟨_, rfl⟩
            obtain ⟨Wq, hWq⟩ : ∃ Wq, Wq = wr.alloc (.cells #[.string nm, .int .i64 (ino : Int), .int .i64 (kd : Int)] 61) := ⟨_, rfl⟩
            have bq : Below wr.heap.size wr Wq := by rw [hWq]; exact (Below.refl _ _).alloc (Nat.le_refl _) _
            have KQ := hide (show Blk Wq dq #[.string nm, .int .i64 (ino : Int), .int .i64 (kd : Int)] 61 from by rw [hWq, hdq]; exact Blk.new wr _ _)
            have HIq := hide (HI.out.below bq)
            have HOq := hide (own_below HOJ.out bq)
            have HDN := hide (show dq ≠ gs from by rw [hdq]; have := HI.out.seen.lt; omega)
            have q1 := (KQ.out.cell 1).trans (show _ = some (.int .i64 (ino : Int)) from rfl)
            have HWq := hide hWq
            have HDQ := hide hdq
            obtain ⟨s, hs⟩ : ∃ s, s = seenF Q ino := ⟨_, rfl⟩
            have x1 : Wq.cell? ⟨gs, ino, none⟩ = some (.bool s) := (HIq.out.seen.cell ino).trans (by rw [seenC_get _ _ _ (by rw [← HN.out]; exact hin), hs])
            have HS := hide hs
            clear hWq hdq bq HI HOJ hs
            go_upto_region 11 with (refine wpList_load_mid rfl 61 _ rfl eb (j * 3) rfl [.string nm, .int .i64 (ino : Int), .int .i64 (kd : Int)] _ HRE.out Tryz.underlying61 rfl infoDt ?_)
            rw [← HWq.out, ← HDQ.out]
            clear HWq HRE HDQ
            cases s with
            | true =>
              have hkd : kd ≠ 2 := fun h => by have := HFR.out h; rw [← HS.out] at this; cases this
              have HCT := hide (chT_file HEJ.out hkd)
              have HNX := hide (show RqI L W1 gs (gs + 1) (T ++ chT es (j + 1)) (P.flatMap (numE L) ++ (es.take (j + 1)).map (fun e => e.2)) Wq g' o' c' from by rw [HCT.out, ← HQN.out]; exact HIq.out.again (ino, kd) HS.out.symm)
              clear hkd
              go_wp2_with fail
              go_roundw
              case rel => exact ⟨j + 1, g', o', c', by omega, by go_num, by rw [HCT.out, HLL.out], HNX, HOq, HNE⟩
              case measure => simp [intOf]; omega
            | false =>
              have y1 := HIq.out.seen.frozen ino
              go_upto_region 13 with fail
              obtain ⟨W8, hW8⟩ : ∃ W8, W8 = Wq.setCell ⟨gs, ino, none⟩ (.bool true) := ⟨_, rfl⟩
              rw [← hW8]
              have HI8 := hide (show RqI L W1 gs (gs + 1) (T ++ chT es j) (P.flatMap (numE L) ++ (es.take (j + 1)).map (fun e => e.2)) W8 g' o' c' from by rw [← HQN.out, hW8]; exact HIq.out.mark (ino, kd))
              have KQ8 := hide (show Blk W8 dq #[.string nm, .int .i64 (ino : Int), .int .i64 (kd : Int)] 61 from by rw [hW8]; exact KQ.out.other _ _ HDN.out)
              have HO8 := hide (show W8.ownsRow sz 61 3 (.slice (some ⟨eb, 0, none⟩) m ec) m (entsC es) from by rw [hW8]; exact own_asideS HOq.out _ _ HSZ.out.2)
              have p1 := (KQ8.out.cell 1).trans (show _ = some (.int .i64 (ino : Int)) from rfl)
              have p2 := (KQ8.out.cell 2).trans (show _ = some (.int .i64 (kd : Int)) from rfl)
              clear x1 y1 q1 hW8 HIq HOq KQ
              by_cases hd2 : kd = 2
              · have hd3 : ((kd : Int) == 2) = true := by rw [hd2]; rfl
                have HCT := hide (chT_dir HEJ.out hd2)
                obtain ⟨W9, hW9⟩ : ∃ W9, W9 = W8.alloc (.cells #[.int .i64 (ino : Int)] 3) := ⟨_, rfl⟩
                have b9 : Below W8.heap.size W8 W9 := by rw [hW9]; exact (Below.refl _ _).alloc (Nat.le_refl _) _
                have HI9 := hide (HI8.out.below b9)
                have HO9 := hide (own_below HO8.out b9)
                have z9 : W9.cell? ⟨W8.heap.size, 0, none⟩ = some (.int .i64 (ino : Int)) := by rw [hW9]; exact ((Blk.new W8 _ _).cell 0).trans rfl
                have HZ9 := hide z9
                have HBS := hide (show gs + 1 ≤ W9.heap.size from by have := HI9.out.q.lt; have := HI9.out.q.lo; omega)
                have HL9 := hide (show l = (qI (T ++ chT es j)).length from by rw [qI_len]; exact HLL.out)
                have HW9 := hide hW9
                clear hd2 z9 hW9 b9
                go_upto_region 14 with fail
                go_wp2_with (at_builtin; rw [← HW9.out]; refine wpList_append_q _ rfl (.tmp 56) (.tmp 59) rfl l HL9.out HI9.out.q rfl HBS.out (ino : Int) ⟨W8.heap.size, 0, none⟩ 1 rfl HZ9.out hlb ?_; intro g2 o3 c3 w9 hq9 hor hgr)
                have HNX := hide (show RqI L W1 gs (gs + 1) (T ++ chT es (j + 1)) (P.flatMap (numE L) ++ (es.take (j + 1)).map (fun e => e.2)) w9 g2 o3 c3 from by rw [HCT.out, ← List.append_assoc]; exact HI9.out.push hq9 hgr)
                have HO10 := hide (show w9.ownsRow sz 61 3 (.slice (some ⟨eb, 0, none⟩) m ec) m (entsC es) from HO9.out.kept hgr (.inr (fun e => by injection e with e; exact HNE.out _ rfl e)))
                have HNE2 := hide (show ∀ k : Addr, some (⟨eb, 0, none⟩ : Addr) = some k → k.block ≠ g2 from fun k hk => by
                  rcases hor with h | h
                  · rw [h]; exact HNE.out k hk
                  · have h3 := (HO9.out.lt eb rfl).2
                    injection hk with hk
                    rw [← hk]
                    show eb ≠ g2
                    omega)
                clear hq9 hor hgr
                go_wp2_with fail
                go_roundw
                case rel => exact ⟨j + 1, g2, o3, c3, by omega, by go_num, by rw [HCT.out, HLL.out, ← List.append_assoc, List.length_append (bs := [ino])]; rfl, HNX, HO10, HNE2⟩
                case measure => simp [intOf]; omega
              · have hd3 : ((kd : Int) == 2) = false := by simp; omega
                have HCT := hide (chT_file HEJ.out hd2)
                have HNX := hide (show RqI L W1 gs (gs + 1) (T ++ chT es (j + 1)) (P.flatMap (numE L) ++ (es.take (j + 1)).map (fun e => e.2)) W8 g' o' c' from by rw [HCT.out]; exact HI8.out)
                clear hd2
                go_wp2_with fail
                go_roundw
                case rel => exact ⟨j + 1, g', o', c', by omega, by go_num, by rw [HCT.out, HLL.out], HNX, HO8, HNE⟩
                case measure => simp [intOf]; omega
          · have hjm2 : j = m := by omega
            subst hjm2
            have HNX := hide (show ∃ k, k + (P.length + 1) = L.length ∧ InvQ L W1 gs (gs + 1) (.slice (some ⟨g', o', none⟩) l c') wr k from by
              have e1 : chT es j = chE (numE L) x := by
                rw [chE_numE, HES.out]; unfold chT; rw [HM.out, List.take_length]
              have e2 : P.flatMap (numE L) ++ (es.take j).map (fun e => e.2) = (P ++ [x]).flatMap (numE L) := by
                rw [List.flatMap_append, List.flatMap_cons, List.flatMap_nil, List.append_nil, HM.out, List.take_length]
                unfold numE
                rw [HES.out]
              have hi := HI.out
              have hl := HLL.out
              rw [e1] at hi hl
              rw [e2] at hi
              exact ⟨L.length - (P.length + 1), by omega, P ++ [x], T ++ chE (numE L) x, g', o', c', by rw [hl], HB.out.next HST.out, hi, by simp; omega⟩)
            go_wp2_with fail
            go_roundw
            case rel =>
              obtain ⟨k, _, hk⟩ := HNX.out
              exact ⟨k, hk⟩
            case measure =>
              obtain ⟨k, hk1, hk⟩ := HNX.out
              have h1 := (leastN_of _ k hk).2
              have h2 := HMQ.out
              show leastN _ < _
              omega
      · rw [if_neg hc1] at ho2
        go_upto_region 7 with fail
        rw [← ho2, ← hc2]
        clear ho2 hc2 hc1 cx hcq
        go_wp2_with (go_at_call 93; fail)
        refine (entries_any _ (ndAt L x).d wr HRD.out HZB.out).mono ?_
        rintro r w2 ⟨v', rfl, hes, b2⟩
        rw [HDO.out] at hes ⊢
        obtain ⟨es, het, hown⟩ := hes rfl
        have HES := hide (show entN (ndAt L x) = es from by unfold entN; rw [if_pos HX2.out, het]; rfl)
        have hel : es.length ≤ 8192 := by have h1 := ent_len het; have h2 := dirOk_lenQ HDO.out; omega
        have HQ3 := hide (HQ2.out.below b2)
        obtain ⟨sz, hsz⟩ : ∃ sz, sz = wr.heap.size := ⟨_, rfl⟩
        rw [← hsz] at hown
        have HOW := hide hown
        have HSZ := hide (show g < sz ∧ gs < sz from by rw [hsz]; exact ⟨HQ2.out.q.lt, HQ2.out.seen.lt⟩)
        clear hes b2 het hown c9 HRD hsz HQ2
        obtain ⟨m, hm⟩ : ∃ m, m = es.length := ⟨_, rfl⟩
        rw [← hm] at HOW hel
        have HM := hide hm
        clear hm
        obtain ⟨ea, ec, rfl⟩ := own_shape HOW.out
        have HN0 := hide (show ∀ k : Addr, ea = some k → k.block ≠ g from fun k hk e => by
          have h1 := (HOW.out.lt k.block (by rw [hk]; rfl)).1
          have h2 := HSZ.out.1
          omega)
        have ht0 : t = (T ++ chT es 0).length := by rw [HT.out]; simp [chT]
        have HQ4 := hide (show RqI L W1 gs (gs + 1) (T ++ chT es 0) (P.flatMap (numE L) ++ (es.take 0).map (fun e => e.2)) w2 g o2 c2 from by
          rw [List.take_zero, List.map_nil, List.append_nil, show chT es 0 = [] from rfl, List.append_nil]; exact HQ3.out)
        have HT0 := hide ht0
        clear ht0 HQ3 hc1'
        go_wp2_with fail
        go_loopw [4, 39] (fun qv jv wx => ∃ j g' o' c', j ≤ m ∧ jv = .int .i64 (j : Int) ∧ qv = .slice (some ⟨g', o', none⟩) (T ++ chT es j).length c' ∧ Hid (RqI L W1 gs (gs + 1) (T ++ chT es j) (P.flatMap (numE L) ++ (es.take j).map (fun e => e.2)) wx g' o' c') ∧ Hid (wx.ownsRow sz 61 3 (.slice ea m ec) m (entsC es)) ∧ Hid (∀ k : Addr, ea = some k → k.block ≠ g')) (fun _ jv _ => m - (intOf jv).toNat)
        case atStart => exact ⟨0, g, o2, c2, Nat.zero_le _, rfl, by rw [← HT0.out], HQ4, HOW, HN0⟩
        case round =>
          obtain ⟨j, g', o', c', hj, rfl, rfl, HI, HOJ, HNE⟩ := hrel
          clear HQ4 HOW HN0 HT0
          have hlb : (T ++ chT es j).length ≤ 16777216 := by
            have h1 := chT_le es j
            have h2 := HM.out
            have h3 := HT.out
            have h4 := HN.out
            rw [List.length_append]
            omega
          obtain ⟨l, hl⟩ : ∃ l, l = (T ++ chT es j).length := ⟨_, rfl⟩
          rw [← hl] at hlb ⊢
          have HLL := hide hl
          clear hl
          by_cases hjm : j < m
          · obtain ⟨e, he⟩ : ∃ e, es[j]? = some e := ⟨_, List.getElem?_eq_getElem (by rw [← HM.out]; exact hjm)⟩
            have HEJ := hide he
            clear he
            obtain ⟨nm, ino, kd⟩ := e
            obtain ⟨eb, rfl⟩ : ∃ eb, ea = some ⟨eb, 0, none⟩ := by
              rcases HOJ.out.2 with ⟨_, h0⟩ | ⟨g', c', cur, e', _⟩
              · omega
              · injection e' with e'
                exact ⟨g', e'⟩
            have HRE := hide (ent_rangeS HOJ.out HEJ.out)
            have hin : ino < N := by
              have hm2 : (ino, kd) ∈ numE L x := by unfold numE; rw [HES.out]; exact List.mem_map.2 ⟨(nm, ino, kd), List.mem_of_getElem? HEJ.out, rfl⟩
              rw [HN.out]
              exact (HST.out.ok x (by rw [← HN.out]; exact hxN) _ hm2).2.1
            have HFR := hide (show kd = 2 → seenF (P.flatMap (numE L) ++ (es.take j).map (fun e => e.2)) ino = false from fun h2 => by
              have := fresh HST.out HB.out (j := j) (e := (nm, ino, kd)) (by rw [HES.out]; exact HEJ.out) h2
              rw [HES.out] at this
              exact this)
            have HQN := hide (show (P.flatMap (numE L) ++ (es.take j).map (fun e => e.2)) ++ [(ino, kd)] = P.flatMap (numE L) ++ (es.take (j + 1)).map (fun e => e.2) from by rw [List.take_add_one, HEJ.out, List.map_append, ← List.append_assoc]; rfl)
            obtain ⟨Q, hQ⟩ : ∃ Q, Q = P.flatMap (numE L) ++ (es.take j).map (fun e => e.2) := ⟨_, rfl⟩
            rw [← hQ] at HFR HQN HI
            clear hQ
            obtain ⟨dq, hdq⟩ : ∃ dq, dq = wr.heap.size := ⟨_, rfl⟩
            obtain ⟨Wq, hWq⟩ : ∃ Wq, Wq = wr.alloc (.cells #[.string nm, .int .i64 (ino : Int), .int .i64 (kd : Int)] 61) := ⟨_, rfl⟩
            have bq : Below wr.heap.size wr Wq := by rw [hWq]; exact (Below.refl _ _).alloc (Nat.le_refl _) _
            have KQ := hide (show Blk Wq dq #[.string nm, .int .i64 (ino : Int), .int .i64 (kd : Int)] 61 from by rw [hWq, hdq]; exact Blk.new wr _ _)
            have HIq := hide (HI.out.below bq)
            have HOq := hide (own_below HOJ.out bq)
            have HDN := hide (show dq ≠ gs from by rw [hdq]; have := HI.out.seen.lt; omega)
            have q1 := (KQ.out.cell 1).trans (show _ = some (.int .i64 (ino : Int)) from rfl)
            have HWq := hide hWq
            have HDQ := hide hdq
            obtain ⟨s, hs⟩ : ∃ s, s = seenF Q ino := ⟨_, rfl⟩
            have x1 : Wq.cell? ⟨gs, ino, none⟩ = some (.bool s) := (HIq.out.seen.cell ino).trans (by rw [seenC_get _ _ _ (by rw [← HN.out]; exact hin), hs])
            have HS := hide hs
            clear hWq hdq bq HI HOJ hs
            go_upto_region 11 with (refine wpList_load_mid rfl 61 _ rfl eb (j * 3) rfl [.string nm, .int .i64 (ino : Int), .int .i64 (kd : Int)] _ HRE.out Tryz.underlying61 rfl infoDt ?_)
            rw [← HWq.out, ← HDQ.out]
            clear HWq HRE HDQ
            cases s with
            | true =>
              have hkd : kd ≠ 2 := fun h => by have := HFR.out h; rw [← HS.out] at this; cases this
              have HCT := hide (chT_file HEJ.out hkd)
              have HNX := hide (show RqI L W1 gs (gs + 1) (T ++ chT es (j + 1)) (P.flatMap (numE L) ++ (es.take (j + 1)).map (fun e => e.2)) Wq g' o' c' from by rw [HCT.out, ← HQN.out]; exact HIq.out.again (ino, kd) HS.out.symm)
              clear hkd
              go_wp2_with fail
              go_roundw
              case rel => exact ⟨j + 1, g', o', c', by omega, by go_num, by rw [HCT.out, HLL.out], HNX, HOq, HNE⟩
              case measure => simp [intOf]; omega
            | false =>
              have y1 := HIq.out.seen.frozen ino
              go_upto_region 13 with fail
              obtain ⟨W8, hW8⟩ : ∃ W8, W8 = Wq.setCell ⟨gs, ino, none⟩ (.bool true) := ⟨_, rfl⟩
              rw [← hW8]
              have HI8 := hide (show RqI L W1 gs (gs + 1) (T ++ chT es j) (P.flatMap (numE L) ++ (es.take (j + 1)).map (fun e => e.2)) W8 g' o' c' from by rw [← HQN.out, hW8]; exact HIq.out.mark (ino, kd))
              have KQ8 := hide (show Blk W8 dq #[.string nm, .int .i64 (ino : Int), .int .i64 (kd : Int)] 61 from by rw [hW8]; exact KQ.out.other _ _ HDN.out)
              have HO8 := hide (show W8.ownsRow sz 61 3 (.slice (some ⟨eb, 0, none⟩) m ec) m (entsC es) from by rw [hW8]; exact own_asideS HOq.out _ _ HSZ.out.2)
              have p1 := (KQ8.out.cell 1).trans (show _ = some (.int .i64 (ino : Int)) from rfl)
              have p2 := (KQ8.out.cell 2).trans (show _ = some (.int .i64 (kd : Int)) from rfl)
              clear x1 y1 q1 hW8 HIq HOq KQ
              by_cases hd2 : kd = 2
              · have hd3 : ((kd : Int) == 2) = true := by rw [hd2]; rfl
                have HCT := hide (chT_dir HEJ.out hd2)
                obtain ⟨W9, hW9⟩ : ∃ W9, W9 = W8.alloc (.cells #[.int .i64 (ino : Int)] 3) := ⟨_, rfl⟩
                have b9 : Below W8.heap.size W8 W9 := by rw [hW9]; exact (Below.refl _ _).alloc (Nat.le_refl _) _
                have HI9 := hide (HI8.out.below b9)
                have HO9 := hide (own_below HO8.out b9)
                have z9 : W9.cell? ⟨W8.heap.size, 0, none⟩ = some (.int .i64 (ino : Int)) := by rw [hW9]; exact ((Blk.new W8 _ _).cell 0).trans rfl
                have HZ9 := hide z9
                have HBS := hide (show gs + 1 ≤ W9.heap.size from by have := HI9.out.q.lt; have := HI9.out.q.lo; omega)
                have HL9 := hide (show l = (qI (T ++ chT es j)).length from by rw [qI_len]; exact HLL.out)
                have HW9 := hide hW9
                clear hd2 z9 hW9 b9
                go_upto_region 14 with fail
                go_wp2_with (at_builtin; rw [← HW9.out]; refine wpList_append_q _ rfl (.tmp 56) (.tmp 59) rfl l HL9.out HI9.out.q rfl HBS.out (ino : Int) ⟨W8.heap.size, 0, none⟩ 1 rfl HZ9.out hlb ?_; intro g2 o3 c3 w9 hq9 hor hgr)
                have HNX := hide (show RqI L W1 gs (gs + 1) (T ++ chT es (j + 1)) (P.flatMap (numE L) ++ (es.take (j + 1)).map (fun e => e.2)) w9 g2 o3 c3 from by rw [HCT.out, ← List.append_assoc]; exact HI9.out.push hq9 hgr)
                have HO10 := hide (show w9.ownsRow sz 61 3 (.slice (some ⟨eb, 0, none⟩) m ec) m (entsC es) from HO9.out.kept hgr (.inr (fun e => by injection e with e; exact HNE.out _ rfl e)))
                have HNE2 := hide (show ∀ k : Addr, some (⟨eb, 0, none⟩ : Addr) = some k → k.block ≠ g2 from fun k hk => by
                  rcases hor with h | h
                  · rw [h]; exact HNE.out k hk
                  · have h3 := (HO9.out.lt eb rfl).2
                    injection hk with hk
                    rw [← hk]
                    show eb ≠ g2
                    omega)
                clear hq9 hor hgr
                go_wp2_with fail
                go_roundw
                case rel => exact ⟨j + 1, g2, o3, c3, by omega, by go_num, by rw [HCT.out, HLL.out, ← List.append_assoc, List.length_append (bs := [ino])]; rfl, HNX, HO10, HNE2⟩
                case measure => simp [intOf]; omega
              · have hd3 : ((kd : Int) == 2) = false := by simp; omega
                have HCT := hide (chT_file HEJ.out hd2)
                have HNX := hide (show RqI L W1 gs (gs + 1) (T ++ chT es (j + 1)) (P.flatMap (numE L) ++ (es.take (j + 1)).map (fun e => e.2)) W8 g' o' c' from by rw [HCT.out]; exact HI8.out)
                clear hd2
                go_wp2_with fail
                go_roundw
                case rel => exact ⟨j + 1, g', o', c', by omega, by go_num, by rw [HCT.out, HLL.out], HNX, HO8, HNE⟩
                case measure => simp [intOf]; omega
          · have hjm2 : j = m := by omega
            subst hjm2
            have HNX := hide (show ∃ k, k + (P.length + 1) = L.length ∧ InvQ L W1 gs (gs + 1) (.slice (some ⟨g', o', none⟩) l c') wr k from by
              have e1 : chT es j = chE (numE L) x := by
                rw [chE_numE, HES.out]; unfold chT; rw [HM.out, List.take_length]
              have e2 : P.flatMap (numE L) ++ (es.take j).map (fun e => e.2) = (P ++ [x]).flatMap (numE L) := by
                rw [List.flatMap_append, List.flatMap_cons, List.flatMap_nil, List.append_nil, HM.out, List.take_length]
                unfold numE
                rw [HES.out]
              have hi := HI.out
              have hl := HLL.out
              rw [e1] at hi hl
              rw [e2] at hi
              exact ⟨L.length - (P.length + 1), by omega, P ++ [x], T ++ chE (numE L) x, g', o', c', by rw [hl], HB.out.next HST.out, hi, by simp; omega⟩)
            go_wp2_with fail
            go_roundw
            case rel =>
              obtain ⟨k, _, hk⟩ := HNX.out
              exact ⟨k, hk⟩
            case measure =>
              obtain ⟨k, hk1, hk⟩ := HNX.out
              have h1 := (leastN_of _ k hk).2
              have h2 := HMQ.out
              show leastN _ < _
              omega
end Go.Proofs.YtplieplmhdfndaaGreatDoor
