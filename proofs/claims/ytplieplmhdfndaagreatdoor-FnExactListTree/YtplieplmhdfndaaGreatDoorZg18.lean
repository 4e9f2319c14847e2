/- The model's l07Entries, walked. -/
import Derived.Test.YtplieplmhdfndaaGreatDoorZg17
namespace Go.Proofs.YtplieplmhdfndaaGreatDoor
set_option linter.unusedVariables false
set_option linter.unusedSimpArgs false
open Go.RowKit

theorem TlI.flag {N : Nat} {W wr : World} {g g1 g2 g3 : Nat} {xn xf xd : List Int} {ok : Bool} (h : TlI N W g g1 g2 g3 xn xf xd ok wr) : TlI N W g g1 g2 g3 xn xf xd false (wr.setCell ⟨g, 3, none⟩ (.bool false)) := by
  have ne : ∀ g' (C : Array Value), Blk wr g' C 3 → g' ≠ g := fun g' C h2 e => by
    have h1 := h.blk
    subst e
    unfold Blk at h1 h2
    rw [h1] at h2
    injection h2 with h2
    injection h2 with _ h3
    revert h3
    decide
  exact ⟨h.blk.set 3 (.bool false), h.r1.other _ _ (ne _ _ h.r1), h.r2.other _ _ (ne _ _ h.r2), h.r3.other _ _ (ne _ _ h.r3), h.n12, h.n13, h.n23, h.lo, h.bel.setCell h.lo.1 _⟩
theorem tl_one (g1 g2 g3 N : Nat) (b : Bool) : (#[.slice (some ⟨g1, 0, none⟩) N N, .slice (some ⟨g2, 0, none⟩) N N, .slice (some ⟨g3, 0, none⟩) N N, .bool b] : Array Value).all (·.oneCell') = true := by
  rw [Array.all_eq_true_iff_forall_mem]
  intro v hv
  simp only [List.mem_toArray, List.mem_cons, List.not_mem_nil, or_false] at hv
  rcases hv with rfl | rfl | rfl | rfl <;> rfl
def dqS (w : World) : Nat := w.heap.size
theorem own_asideS {w : World} {base : Nat} {e : TypeId} {sz : Nat} {v : Value} {n : Nat} {xs : List Value} (hr : w.ownsRow base e sz v n xs) (a : Addr) (u : Value) (hb : a.block < base) : (w.setCell a u).ownsRow base e sz v n xs :=
  hr.kept (w' := w.setCell a u) (row := some a.block) ⟨rfl, rfl, rfl, by simp, fun k hk hne => Below.heap_setCell w a u k (fun e => hne (by rw [e]))⟩ (by
    cases hv : v.ownBlock with
    | none => exact .inl rfl
    | some k => exact .inr (fun e => by have := (hr.lt k hv).1; injection e with e; omega))
theorem TlI.rows {N : Nat} {W wr : World} {g g1 g2 g3 : Nat} {xn xf xd : List Int} {ok : Bool} (h : TlI N W g g1 g2 g3 xn xf xd ok wr) (b : Nat) (cs : Array Value) (hb : b < W.heap.size) : Blk (wr.setRow b cs) g1 (cellsI xn) 3 ∧ Blk (wr.setRow b cs) g2 (cellsI xf) 3 ∧ Blk (wr.setRow b cs) g3 (cellsI xd) 3 := by
  have hl := h.lo
  exact ⟨(setRow_block wr b cs g1 (by omega)).trans h.r1, (setRow_block wr b cs g2 (by omega)).trans h.r2, (setRow_block wr b cs g3 (by omega)).trans h.r3⟩
theorem tal_no {L : List Nd} {w w' : World} {a1 a2 a3 : Option Addr} {l1 l2 l3 c1 c2 c3 : Nat} (h : ¬ EntTo L L.length) (hb : Below w.heap.size w w') : TalR L w w' (.returned (.agg #[.slice a1 l1 c1, .slice a2 l2 c2, .slice a3 l3 c3, .bool false])) :=
  ⟨_, _, _, false, rfl, ⟨fun h3 => (by cases h3), fun h2 => absurd h2 h⟩, fun h3 => (by cases h3), hb, _, _, _, _, _, _, _, _, _, rfl, rfl, rfl⟩
theorem infoDt : (Tryz.prog.info? 61).map (·.size) = some 3 := by kernel_rfl
theorem entsC_atS : ∀ (es : List (ByteArray × Nat × Nat)) (j : Nat) (e : ByteArray × Nat × Nat), es[j]? = some e → ∀ (i : Nat) (u : Value), [Value.string e.1, .int .i64 (e.2.1 : Int), .int .i64 (e.2.2 : Int)][i]? = some u → (entsC es)[j * 3 + i]? = some u
  | [], j, e, h, _, _, _ => by simp at h
  | x :: es, 0, e, h, i, u, hu => by
    simp at h
    subst h
    have hi : i < 3 := (List.getElem?_eq_some_iff.1 hu).1
    match i, hi with
    | 0, _ => simpa [entsC] using hu
    | 1, _ => simpa [entsC] using hu
    | 2, _ => simpa [entsC] using hu
  | x :: es, j + 1, e, h, i, u, hu => by
    simp at h
    have := entsC_atS es j e h i u hu
    rw [show (j + 1) * 3 + i = (j * 3 + i) + 3 by omega]
    simpa [entsC] using this
theorem ent_rangeS {W : World} {base n cap g : Nat} {es : List (ByteArray × Nat × Nat)} {j : Nat} {e : ByteArray × Nat × Nat} (h : W.ownsRow base 61 3 (.slice (some ⟨g, 0, none⟩) n cap) n (entsC es)) (he : es[j]? = some e) : W.rangeAt g (j * 3) [.string e.1, .int .i64 (e.2.1 : Int), .int .i64 (e.2.2 : Int)] := by
  intro i u hu
  have := h.cells (g := g) rfl (j * 3 + i) u (entsC_atS es j e he i u hu)
  rw [Addr.add_mid, Nat.zero_add] at this
  exact this
theorem not_ent {L : List Nd} {k : Nat} {e : ByteArray × Nat × Nat} (hk : k < L.length) (hd : (ndAt L k).k = 2) (he : e ∈ entN (ndAt L k)) (hb : entOkB L k e = false) : ¬ EntTo L L.length := fun h => by
  have := (h k hk hd).2 e he
  rw [hb] at this
  cases this
set_option maxRecDepth 100000 in
set_option maxHeartbeats 8000000 in
theorem tally_any (C : Int) (v : Value) (L : List Nd) (vs : List Value) (w : World) (h : RdN w 9 v (L.map ndE) vs) (hL : L.length ≤ 1048576) (hbd : ∀ i, i < L.length → ∀ z ∈ (ndAt L i).d, 0 ≤ z ∧ z < 256) :
    Calls Tryz.prog 58 #[.agg #[.int .i64 C, v]] w fun e w' => TalR L w w' e := by
  obtain ⟨a, cap, rfl, _⟩ := h.row
  rw [List.length_map] at h ⊢
  obtain ⟨N, hN⟩ : ∃ N, N = L.length := ⟨_, rfl⟩
  rw [← hN] at h hL ⊢
  have HN := hide hN
  have HR := hide h
  have HBD := hide hbd
  clear hN h hbd
  have c1 : ((w.alloc (.cells #[.int .i64 C, .slice a N cap] 29)).alloc (.cells #[.slice none 0 0, .slice none 0 0, .slice none 0 0, .bool false] 123)).cell? ⟨w.heap.size, 1, none⟩ = some (.slice a N cap) := (((Blk.new w _ _).alloc _).cell 1).trans rfl
  have k2 := Blk.new (w.alloc (.cells #[.int .i64 C, .slice a N cap] 29)) #[.slice none 0 0, .slice none 0 0, .slice none 0 0, .bool false] 123
  rw [World.size_alloc] at k2
  have K2 := hide k2
  have BW := hide (show Below w.heap.size w ((w.alloc (.cells #[.int .i64 C, .slice a N cap] 29)).alloc (.cells #[.slice none 0 0, .slice none 0 0, .slice none 0 0, .bool false] 123)) from ((Below.refl _ _).alloc (Nat.le_refl _) _).alloc (by simp) _)
  clear k2
  go_enter Tryz.func58, Tryz.ntmps58
  go_upto_region 2 with fail
  have hmk := fun W => run_make_row' (P := Tryz.prog) 52 3 (.int .i64 0) 8 Tryz.underlying52 infoIn rfl .i64 .i64 N (by omega) (by omega) W
  simp only [zeros_row] at hmk
  generalize hz : cellsI (List.replicate N 0) = Z at hmk
  have HZ := hide hz
  clear hz
  generalize ((w.alloc (.cells #[.int .i64 C, .slice a N cap] 29)).alloc (.cells #[.slice none 0 0, .slice none 0 0, .slice none 0 0, .bool false] 123)) = W1 at c1 K2 BW ⊢
  go_cut [4] from 14 to 20 (fun v4 wx => ∃ g g1 g2 g3, v4 = .pointer (some ⟨g, 0, none⟩) ∧ Hid (TlI N W1 g g1 g2 g3 (List.replicate N 0) (List.replicate N 0) (List.replicate N 0) true wx))
  case first =>
    go_region
    all_goals go_wp2_with fail
    all_goals go_meet
    all_goals exact ⟨_, _, _, _, rfl, ⟨by first | exact (al4 W1 _ _ _ _).1 | exact (al4 W1 _ _ _ _).2.1 | exact (al4 W1 _ _ _ _).2.2.1 | exact (al4 W1 _ _ _ _).2.2.2.1, by rw [HZ.out]; first | exact (al4 W1 _ _ _ _).1 | exact (al4 W1 _ _ _ _).2.1 | exact (al4 W1 _ _ _ _).2.2.1 | exact (al4 W1 _ _ _ _).2.2.2.1, by rw [HZ.out]; first | exact (al4 W1 _ _ _ _).1 | exact (al4 W1 _ _ _ _).2.1 | exact (al4 W1 _ _ _ _).2.2.1 | exact (al4 W1 _ _ _ _).2.2.2.1, by rw [HZ.out]; first | exact (al4 W1 _ _ _ _).1 | exact (al4 W1 _ _ _ _).2.1 | exact (al4 W1 _ _ _ _).2.2.1 | exact (al4 W1 _ _ _ _).2.2.2.1, by omega, by omega, by omega, ⟨by omega, by omega, by omega, by omega⟩, (al4 W1 _ _ _ _).2.2.2.2.drew⟩⟩
  case rest =>
    obtain ⟨g, g1, g2, g3, rfl, HT0⟩ := hcut
    have HE0 := hide (show EnI L W1 g g1 g2 g3 [] wc from EnI.zero (by rw [← HN.out]; exact HT0.out))
    have HR1 := hide (HR.out.below BW.out)
    have C1 := hide c1
    have c2 : wc.cell? ⟨w.heap.size, 1, none⟩ = some (.slice a N cap) := (HT0.out.bel.cell (p := ⟨w.heap.size, 1, none⟩) (show w.heap.size < W1.heap.size from by have := K2.out.lt; omega)).trans c1
    clear hmk HZ HT0 HR c1
    go_wp2_with fail
    go_loopw [24] (fun iv wr => ∃ k : Nat, k ≤ N ∧ iv = .int .i64 (k : Int) ∧ Hid (EnI L W1 g g1 g2 g3 (allQ L k) wr) ∧ Hid (EntTo L k)) (fun iv _ => N - (intOf iv).toNat)
    case atStart => exact ⟨0, Nat.zero_le _, rfl, HE0, fun j hj => by omega⟩
    case round =>
      obtain ⟨k, hk, rfl, HE, HO⟩ := hrel
      clear HE0 c2
      by_cases hlt : k < N
      · have hltL : k < L.length := by rw [← HN.out]; exact hlt
        have hQl := allQ_len HO.out
        obtain ⟨b, off, cap', na, nc, e0, hb, hr, _, hrange⟩ := node_at (HR1.out.below HE.out.bel) (i := k) hltL
        injection e0 with e1 e2 e3
        subst e1 e3
        have HRG := hide hrange
        have HRD := hide hr
        have HZB := hide (HBD.out k hltL)
        have HKL := hide hltL
        obtain ⟨x, hx⟩ : ∃ x, x = ndAt L k := ⟨_, rfl⟩
        rw [← hx] at HRG HRD HZB
        have HX := hide hx
        obtain ⟨q, hq⟩ : ∃ q, q = x.d.length := ⟨_, rfl⟩
        have HQ := hide hq
        rw [← hq] at HRG HRD
        clear hr hrange hx hq e2 hb hltL
        have HA1 := hide (show Below wr.heap.size wr (wr.alloc (.cells #[.int .i64 x.k, .int .i64 x.l, .int .i64 x.m, .int .i64 x.u, .int .i64 x.g, .int .i64 x.p, .int .i64 x.e, .int .i64 x.t, .int .i64 x.c, .slice na q nc] 56)) from (Below.refl _ _).alloc (Nat.le_refl _) _)
        by_cases hk2 : x.k = 2
        · have HK2 := hide hk2
          have hk3 : (x.k != 2) = false := by simp [hk2]
          clear hk2
          go_upto_region 7 with (refine wpList_load_mid rfl 56 _ rfl b (off + k * 10) rfl [.int .i64 x.k, .int .i64 x.l, .int .i64 x.m, .int .i64 x.u, .int .i64 x.g, .int .i64 x.p, .int .i64 x.e, .int .i64 x.t, .int .i64 x.c, .slice na q nc] _ HRG.out Tryz.underlying56 rfl infoNd ?_)
          have HT1 := hide (TlI.below HE.out HA1.out)
          have HRD1 := hide (HRD.out.below HA1.out)
          obtain ⟨Wa, hWa⟩ : ∃ Wa, Wa = wr.alloc (.cells #[.int .i64 x.k, .int .i64 x.l, .int .i64 x.m, .int .i64 x.u, .int .i64 x.g, .int .i64 x.p, .int .i64 x.e, .int .i64 x.t, .int .i64 x.c, .slice na q nc] 56) := ⟨_, rfl⟩
          rw [← hWa] at HT1 HRD1 ⊢
          have c9 : Wa.cell? ⟨wr.heap.size, 9, none⟩ = some (.slice na q nc) := by rw [hWa]; exact ((Blk.new wr _ _).cell 9).trans rfl
          clear hWa HA1 HRD HRG HE
          go_wp2_with (go_at_call 93; fail)
          refine (entries_any _ x.d Wa HRD1.out HZB.out).mono ?_
          rintro r w2 ⟨v', rfl, hes, b2⟩
          have HT2 := hide (HT1.out.below b2)
          have HK22 := hide (K2.out.below HT2.out.bel K2.out.lt)
          clear HRD1 c9
          cases hd : dirOk x.d with
          | false =>
            have HNO := hide (show ¬ EntTo L L.length from fun h2 => by have := (h2 k HKL.out (by rw [← HX.out]; exact HK2.out)).1; rw [← HX.out, hd] at this; cases this)
            clear hes b2 hd
            have TB := hide (TlI.flag HT2.out)
            rw [← HN.out] at TB
            have kb := HT2.out.blk
            rw [← HN.out] at kb
            have d0 := (kb.cell 3).trans (show _ = some (.bool true) from rfl)
            have f0 := kb.frozen 3
            have KB2 := hide (K2.out.below TB.out.bel K2.out.lt)
            have BB := hide (below_setRow (BW.out.trans (TB.out.bel.mono BW.out.size)) (show w.heap.size ≤ w.heap.size + 1 by omega) (#[.slice (some ⟨g1, 0, none⟩) N N, .slice (some ⟨g2, 0, none⟩) N N, .slice (some ⟨g3, 0, none⟩) N N, .bool false]))
            clear kb
            go_wp2_with (first | (refine wpList_load_row rfl 123 _ rfl g rfl 123 #[.slice (some ⟨g1, 0, none⟩) N N, .slice (some ⟨g2, 0, none⟩) N N, .slice (some ⟨g3, 0, none⟩) N N, .bool false] (0, 0) _ TB.out.blk Tryz.underlying123 rfl infoTl ?_) | (refine wpList_store_row rfl 123 _ _ rfl (w.heap.size + 1) #[.slice (some ⟨g1, 0, none⟩) N N, .slice (some ⟨g2, 0, none⟩) N N, .slice (some ⟨g3, 0, none⟩) N N, .bool false] rfl rfl 123 _ KB2.out infoTl rfl (tl_one _ _ _ _ _) ?_))
            refine bodyPost_ret (v := .agg #[.slice (some ⟨g1, 0, none⟩) N N, .slice (some ⟨g2, 0, none⟩) N N, .slice (some ⟨g3, 0, none⟩) N N, .bool false]) ?_ rfl ?_
            · exact results_cell_row rfl _ _ (w.heap.size + 1) 123 #[.slice (some ⟨g1, 0, none⟩) N N, .slice (some ⟨g2, 0, none⟩) N N, .slice (some ⟨g3, 0, none⟩) N N, .bool false] (0, 0) _ rfl (KB2.out.row _) Tryz.underlying123 rfl infoTl
            · exact tal_no HNO.out BB.out
          | true =>
            obtain ⟨es, het, hown⟩ := hes hd
            have HES := hide (show entN (ndAt L k) = es from by unfold entN; rw [← HX.out, if_pos HK2.out, het]; rfl)
            have HDK := hide (show dirOk (ndAt L k).d = true from by rw [← HX.out]; exact hd)
            have hel : es.length ≤ 8192 := by have h1 := ent_len het; have h2 := dirOk_lenQ hd; omega
            have HOW := hide hown
            have HLB := hide (show g < Wa.heap.size ∧ g1 < Wa.heap.size ∧ g2 < Wa.heap.size ∧ g3 < Wa.heap.size from ⟨HT1.out.blk.lt, HT1.out.r1.lt, HT1.out.r2.lt, HT1.out.r3.lt⟩)
            clear hes b2 hd het hown
            obtain ⟨m, hm⟩ : ∃ m, m = es.length := ⟨_, rfl⟩
            rw [← hm] at HOW hel
            have HM := hide hm
            clear hm
            obtain ⟨ea, ec, rfl⟩ := own_shape HOW.out
            have HI0 := hide (show EnI L W1 g g1 g2 g3 (allQ L k ++ (es.take 0).map (fun e => (k, e))) w2 from by rw [List.take_zero, List.map_nil, List.append_nil]; exact HT2.out)
            clear HT1 HT2 HK22
            go_wp2_with fail
            go_loopw [44] (fun jv wr => ∃ j : Nat, j ≤ m ∧ jv = .int .i64 (j : Int) ∧ Hid (EnI L W1 g g1 g2 g3 (allQ L k ++ (es.take j).map (fun e => (k, e))) wr) ∧ Hid (wr.ownsRow Wa.heap.size 61 3 (.slice ea m ec) m (entsC es)) ∧ Hid (∀ e ∈ es.take j, entOkB L k e = true)) (fun jv _ => m - (intOf jv).toNat)
            case atStart => exact ⟨0, Nat.zero_le _, rfl, HI0, HOW, fun e he => by simp at he⟩
            case round =>
              obtain ⟨j, hj, rfl, HI, HOJ, HGJ⟩ := hrel
              clear HI0 HOW
              by_cases hjm : j < m
              · obtain ⟨e, he⟩ : ∃ e, es[j]? = some e := ⟨_, List.getElem?_eq_getElem (by rw [← HM.out]; exact hjm)⟩
                have HEJ := hide he
                clear he
                obtain ⟨nm, ino, kd⟩ := e
                obtain ⟨eb, rfl⟩ : ∃ eb, ea = some ⟨eb, 0, none⟩ := by
                  rcases HOJ.out.2 with ⟨_, h0⟩ | ⟨g', c', cur, e', _⟩
                  · omega
                  · injection e' with e'
                    exact ⟨g', e'⟩
                have HRE := hide (ent_rangeS HOJ.out HEJ.out)
                have HOS := hide (show Wa.heap.size ≤ wr.heap.size ∧ dqS wr = wr.heap.size from ⟨Nat.le_of_lt (Nat.lt_of_le_of_lt (HOJ.out.lt eb rfl).1 (HOJ.out.lt eb rfl).2), rfl⟩)
                have HMEM := hide (show (nm, ino, kd) ∈ entN (ndAt L k) from by rw [HES.out]; exact List.mem_of_getElem? HEJ.out)
                have HKK := hide (show (ndAt L k).k = 2 from by rw [← HX.out]; exact HK2.out)
                obtain ⟨dq, hdq⟩ : ∃ dq, dq = wr.heap.size := ⟨_, rfl⟩
                obtain ⟨Wq, hWq⟩ : ∃ Wq, Wq = wr.alloc (.cells #[.string nm, .int .i64 (ino : Int), .int .i64 (kd : Int)] 61) := ⟨_, rfl⟩
                have bq : Below wr.heap.size wr Wq := by rw [hWq]; exact (Below.refl _ _).alloc (Nat.le_refl _) _
                have HBQ := hide bq
                have KQ := hide (show Blk Wq dq #[.string nm, .int .i64 (ino : Int), .int .i64 (kd : Int)] 61 from by rw [hWq, hdq]; exact Blk.new wr _ _)
                have HTq := hide (show TlI L.length W1 g g1 g2 g3 _ _ _ true Wq from TlI.below HI.out bq)
                have HOq := hide (own_below HOJ.out bq)
                have q0 := (KQ.out.cell 0).trans (show _ = some (.string nm) from rfl)
                have q1 := (KQ.out.cell 1).trans (show _ = some (.int .i64 (ino : Int)) from rfl)
                have q2 := (KQ.out.cell 2).trans (show _ = some (.int .i64 (kd : Int)) from rfl)
                have cS : Wq.cell? ⟨w.heap.size, 1, none⟩ = some (.slice (some ⟨b, off, none⟩) N cap) := (HTq.out.bel.cell (p := ⟨w.heap.size, 1, none⟩) (show w.heap.size < W1.heap.size from by have := K2.out.lt; omega)).trans C1.out
                have HWq := hide hWq
                have HDQ := hide hdq
                have hQb : (allQ L k ++ (es.take j).map (fun e => (k, e))).length ≤ 8589942784 := by
                  rw [List.length_append, List.length_map, List.length_take]
                  omega
                obtain ⟨Q, hQ⟩ : ∃ Q, Q = allQ L k ++ (es.take j).map (fun e => (k, e)) := ⟨_, rfl⟩
                have HQN := hide (show Q ++ [(k, (nm, ino, kd))] = allQ L k ++ (es.take (j + 1)).map (fun e => (k, e)) from by rw [hQ, List.take_add_one, HEJ.out, List.map_append, ← List.append_assoc]; rfl)
                rw [← hQ] at HTq hQb
                clear hQ hWq hdq bq HI HOJ
                go_upto_region 14 with (refine wpList_load_mid rfl 61 _ rfl eb (j * 3) rfl [.string nm, .int .i64 (ino : Int), .int .i64 (kd : Int)] _ HRE.out Tryz.underlying61 rfl infoDt ?_)
                rw [← HWq.out, ← HDQ.out]
                clear HWq HRE
                have HTA := hide (fun nq => show TlI L.length W1 g g1 g2 g3 _ _ _ true (Wq.drewN nq) from TlI.below HTq.out (Go.below_drewN (Below.refl _ _) nq))
                by_cases h1 : N ≤ ino
                · have hb1 : (N : Int) ≤ (ino : Int) := by omega
                  have HNO := hide (not_ent HKL.out HKK.out HMEM.out (by unfold entOkB; rw [decide_eq_false (show ¬ ino < L.length by rw [← HN.out]; omega)]; rfl))
                  clear h1
                  go_quiet (fail)
                  have HTZ := hide (HTA.out nq)
                  have TB := hide (TlI.flag HTZ.out)
                  rw [← HN.out] at TB
                  have kb := HTZ.out.blk
                  rw [← HN.out] at kb
                  have d0 := (kb.cell 3).trans (show _ = some (.bool true) from rfl)
                  have f0 := kb.frozen 3
                  have KB2 := hide (K2.out.below TB.out.bel K2.out.lt)
                  have BB := hide (below_setRow (BW.out.trans (TB.out.bel.mono BW.out.size)) (show w.heap.size ≤ w.heap.size + 1 by omega) (#[.slice (some ⟨g1, 0, none⟩) N N, .slice (some ⟨g2, 0, none⟩) N N, .slice (some ⟨g3, 0, none⟩) N N, .bool false]))
                  clear kb
                  go_wp2_with (first | (refine wpList_load_row rfl 123 _ rfl g rfl 123 #[.slice (some ⟨g1, 0, none⟩) N N, .slice (some ⟨g2, 0, none⟩) N N, .slice (some ⟨g3, 0, none⟩) N N, .bool false] (0, 0) _ TB.out.blk Tryz.underlying123 rfl infoTl ?_) | (refine wpList_store_row rfl 123 _ _ rfl (w.heap.size + 1) #[.slice (some ⟨g1, 0, none⟩) N N, .slice (some ⟨g2, 0, none⟩) N N, .slice (some ⟨g3, 0, none⟩) N N, .bool false] rfl rfl 123 _ KB2.out infoTl rfl (tl_one _ _ _ _ _) ?_))
                  refine bodyPost_ret (v := .agg #[.slice (some ⟨g1, 0, none⟩) N N, .slice (some ⟨g2, 0, none⟩) N N, .slice (some ⟨g3, 0, none⟩) N N, .bool false]) ?_ rfl ?_
                  · exact results_cell_row rfl _ _ (w.heap.size + 1) 123 #[.slice (some ⟨g1, 0, none⟩) N N, .slice (some ⟨g2, 0, none⟩) N N, .slice (some ⟨g3, 0, none⟩) N N, .bool false] (0, 0) _ rfl (KB2.out.row _) Tryz.underlying123 rfl infoTl
                  · exact tal_no HNO.out BB.out
                have hin : (ino : Int) < (N : Int) := by omega
                have hin2 : ¬ (N : Int) ≤ (ino : Int) := by omega
                have HIN := hide (show ino < L.length from by rw [← HN.out]; omega)
                by_cases h2 : ino = 1
                · have hb1 : ((ino : Int) == 1) = true := by rw [h2]; rfl
                  have HNO := hide (not_ent HKL.out HKK.out HMEM.out (by unfold entOkB; rw [decide_eq_false (show ¬ ino ≠ 1 from fun h => h h2)]; simp))
                  clear h1 h2
                  go_quiet (fail)
                  have HTZ := hide (HTA.out nq)
                  have TB := hide (TlI.flag HTZ.out)
                  rw [← HN.out] at TB
                  have kb := HTZ.out.blk
                  rw [← HN.out] at kb
                  have d0 := (kb.cell 3).trans (show _ = some (.bool true) from rfl)
                  have f0 := kb.frozen 3
                  have KB2 := hide (K2.out.below TB.out.bel K2.out.lt)
                  have BB := hide (below_setRow (BW.out.trans (TB.out.bel.mono BW.out.size)) (show w.heap.size ≤ w.heap.size + 1 by omega) (#[.slice (some ⟨g1, 0, none⟩) N N, .slice (some ⟨g2, 0, none⟩) N N, .slice (some ⟨g3, 0, none⟩) N N, .bool false]))
                  clear kb
                  go_wp2_with (first | (refine wpList_load_row rfl 123 _ rfl g rfl 123 #[.slice (some ⟨g1, 0, none⟩) N N, .slice (some ⟨g2, 0, none⟩) N N, .slice (some ⟨g3, 0, none⟩) N N, .bool false] (0, 0) _ TB.out.blk Tryz.underlying123 rfl infoTl ?_) | (refine wpList_store_row rfl 123 _ _ rfl (w.heap.size + 1) #[.slice (some ⟨g1, 0, none⟩) N N, .slice (some ⟨g2, 0, none⟩) N N, .slice (some ⟨g3, 0, none⟩) N N, .bool false] rfl rfl 123 _ KB2.out infoTl rfl (tl_one _ _ _ _ _) ?_))
                  refine bodyPost_ret (v := .agg #[.slice (some ⟨g1, 0, none⟩) N N, .slice (some ⟨g2, 0, none⟩) N N, .slice (some ⟨g3, 0, none⟩) N N, .bool false]) ?_ rfl ?_
                  · exact results_cell_row rfl _ _ (w.heap.size + 1) 123 #[.slice (some ⟨g1, 0, none⟩) N N, .slice (some ⟨g2, 0, none⟩) N N, .slice (some ⟨g3, 0, none⟩) N N, .bool false] (0, 0) _ rfl (KB2.out.row _) Tryz.underlying123 rfl infoTl
                  · exact tal_no HNO.out BB.out
                have h2b : ((ino : Int) == 1) = false := by simp; omega
                obtain ⟨kv, hkv⟩ : ∃ kv, kv = (ndAt L ino).k := ⟨_, rfl⟩
                have cK : Wq.cell? ⟨b, off + ino * 10, none⟩ = some (.int .i64 kv) := by
                  obtain ⟨b', off', cap', na', nc', e0, _, _, _, hrange⟩ := node_at (HR1.out.below HTq.out.bel) (i := ino) HIN.out
                  injection e0 with e1 e2 e3
                  injection e1 with e1
                  injection e1 with e4 e5
                  subst e4 e5
                  have := hrange 0 (.int .i64 (ndAt L ino).k) rfl
                  rw [Nat.add_zero] at this
                  rw [hkv]
                  exact this
                have HKV := hide hkv
                by_cases h3 : kv = (kd : Int)
                rotate_left
                · have hb3 : (kv != (kd : Int)) = true := by simpa using h3
                  have HNO := hide (not_ent HKL.out HKK.out HMEM.out (by unfold entOkB; rw [decide_eq_false (show ¬ (ndAt L ino).k = (kd : Int) by rw [← HKV.out]; exact h3)]; simp))
                  clear h1 h2 h3 hkv
                  go_quiet (fail)
                  have HTZ := hide (HTA.out nq)
                  have TB := hide (TlI.flag HTZ.out)
                  rw [← HN.out] at TB
                  have kb := HTZ.out.blk
                  rw [← HN.out] at kb
                  have d0 := (kb.cell 3).trans (show _ = some (.bool true) from rfl)
                  have f0 := kb.frozen 3
                  have KB2 := hide (K2.out.below TB.out.bel K2.out.lt)
                  have BB := hide (below_setRow (BW.out.trans (TB.out.bel.mono BW.out.size)) (show w.heap.size ≤ w.heap.size + 1 by omega) (#[.slice (some ⟨g1, 0, none⟩) N N, .slice (some ⟨g2, 0, none⟩) N N, .slice (some ⟨g3, 0, none⟩) N N, .bool false]))
                  clear kb
                  go_wp2_with (first | (refine wpList_load_row rfl 123 _ rfl g rfl 123 #[.slice (some ⟨g1, 0, none⟩) N N, .slice (some ⟨g2, 0, none⟩) N N, .slice (some ⟨g3, 0, none⟩) N N, .bool false] (0, 0) _ TB.out.blk Tryz.underlying123 rfl infoTl ?_) | (refine wpList_store_row rfl 123 _ _ rfl (w.heap.size + 1) #[.slice (some ⟨g1, 0, none⟩) N N, .slice (some ⟨g2, 0, none⟩) N N, .slice (some ⟨g3, 0, none⟩) N N, .bool false] rfl rfl 123 _ KB2.out infoTl rfl (tl_one _ _ _ _ _) ?_))
                  refine bodyPost_ret (v := .agg #[.slice (some ⟨g1, 0, none⟩) N N, .slice (some ⟨g2, 0, none⟩) N N, .slice (some ⟨g3, 0, none⟩) N N, .bool false]) ?_ rfl ?_
                  · exact results_cell_row rfl _ _ (w.heap.size + 1) 123 #[.slice (some ⟨g1, 0, none⟩) N N, .slice (some ⟨g2, 0, none⟩) N N, .slice (some ⟨g3, 0, none⟩) N N, .bool false] (0, 0) _ rfl (KB2.out.row _) Tryz.underlying123 rfl infoTl
                  · exact tal_no HNO.out BB.out
                have hb3 : (kv != (kd : Int)) = false := by simp [h3]
                by_cases h4 : k = 1 ∧ (nm.toList == [46, 115, 110, 97, 112, 115, 104, 111, 116]) = true
                · have hb4 : ((k : Int) == 1) = true := by rw [h4.1]; rfl
                  have hb5 := h4.2
                  have HNO := hide (not_ent HKL.out HKK.out HMEM.out (by unfold entOkB; rw [decide_eq_true h4.1]; simp only [hb5]; simp))
                  clear h1 h2 h3 h4 hkv
                  go_quiet (fail)
                  have HTZ := hide (HTA.out nq)
                  have TB := hide (TlI.flag HTZ.out)
                  rw [← HN.out] at TB
                  have kb := HTZ.out.blk
                  rw [← HN.out] at kb
                  have d0 := (kb.cell 3).trans (show _ = some (.bool true) from rfl)
                  have f0 := kb.frozen 3
                  have KB2 := hide (K2.out.below TB.out.bel K2.out.lt)
                  have BB := hide (below_setRow (BW.out.trans (TB.out.bel.mono BW.out.size)) (show w.heap.size ≤ w.heap.size + 1 by omega) (#[.slice (some ⟨g1, 0, none⟩) N N, .slice (some ⟨g2, 0, none⟩) N N, .slice (some ⟨g3, 0, none⟩) N N, .bool false]))
                  clear kb
                  go_wp2_with (first | (refine wpList_load_row rfl 123 _ rfl g rfl 123 #[.slice (some ⟨g1, 0, none⟩) N N, .slice (some ⟨g2, 0, none⟩) N N, .slice (some ⟨g3, 0, none⟩) N N, .bool false] (0, 0) _ TB.out.blk Tryz.underlying123 rfl infoTl ?_) | (refine wpList_store_row rfl 123 _ _ rfl (w.heap.size + 1) #[.slice (some ⟨g1, 0, none⟩) N N, .slice (some ⟨g2, 0, none⟩) N N, .slice (some ⟨g3, 0, none⟩) N N, .bool false] rfl rfl 123 _ KB2.out infoTl rfl (tl_one _ _ _ _ _) ?_))
                  refine bodyPost_ret (v := .agg #[.slice (some ⟨g1, 0, none⟩) N N, .slice (some ⟨g2, 0, none⟩) N N, .slice (some ⟨g3, 0, none⟩) N N, .bool false]) ?_ rfl ?_
                  · exact results_cell_row rfl _ _ (w.heap.size + 1) 123 #[.slice (some ⟨g1, 0, none⟩) N N, .slice (some ⟨g2, 0, none⟩) N N, .slice (some ⟨g3, 0, none⟩) N N, .bool false] (0, 0) _ rfl (KB2.out.row _) Tryz.underlying123 rfl infoTl
                  · exact tal_no HNO.out BB.out
                have HGOOD := hide (show entOkB L k (nm, ino, kd) = true from by
                  unfold entOkB
                  rw [decide_eq_true HIN.out, decide_eq_true h2, decide_eq_true (show (ndAt L ino).k = (kd : Int) by rw [← HKV.out]; exact h3)]
                  simp only [Bool.true_and, Bool.not_eq_true', Bool.and_eq_false_iff]
                  rcases Classical.em (k = 1) with h | h
                  · right; rcases Bool.eq_false_or_eq_true (nm.toList == [46, 115, 110, 97, 112, 115, 104, 111, 116]) with h5 | h5
                    · exact absurd ⟨h, h5⟩ h4
                    · exact h5
                  · left; exact decide_eq_false h)
                by_cases hk1 : k = 1
                · have hb4 : ((k : Int) == 1) = true := by rw [hk1]; rfl
                  have hb5 : (nm.toList == [46, 115, 110, 97, 112, 115, 104, 111, 116]) = false := by
                    rcases Bool.eq_false_or_eq_true (nm.toList == [46, 115, 110, 97, 112, 115, 104, 111, 116]) with h5 | h5
                    · exact absurd ⟨hk1, h5⟩ h4
                    · exact h5
                  clear h1 h2 h3 h4 hkv hk1
                  go_quiet (fail)
                  obtain ⟨W7, hW7⟩ : ∃ W7, W7 = Wq.drewN nq := ⟨_, rfl⟩
                  have b7 : Below Wq.heap.size Wq W7 := by rw [hW7]; exact Go.below_drewN (Below.refl _ _) nq
                  rw [← hW7]
                  have HT7 := hide (show TlI L.length W1 g g1 g2 g3 _ _ _ true W7 from TlI.below HTq.out b7)
                  have KQ7 := hide (KQ.out.below b7 KQ.out.lt)
                  have HO7 := hide (own_below HOq.out b7)
                  have HD1 := hide (show dq ≠ g1 ∧ dq ≠ g2 ∧ dq ≠ g3 from by have h1 := HLB.out; have h2 := HOS.out.1; have h3 := HDQ.out; omega)
                  obtain ⟨z1, hz1⟩ : ∃ z1, z1 = tnQ Q ino := ⟨_, rfl⟩
                  obtain ⟨z3, hz3⟩ : ∃ z3, z3 = tdQ Q k := ⟨_, rfl⟩
                  have hz1b := tnQ_bd Q ino
                  have hz3b := tdQ_bd Q k
                  rw [← hz1] at hz1b
                  rw [← hz3] at hz3b
                  have hz1c : 0 ≤ z1 ∧ z1 ≤ 8589942784 := by omega
                  have hz3c : 0 ≤ z3 ∧ z3 ≤ 8589942784 := by omega
                  obtain ⟨hz1d, hz1e⟩ := hz1c
                  obtain ⟨hz3d, hz3e⟩ := hz3c
                  have HZ1 := hide hz1
                  have HZ3 := hide hz3
                  have kb := HT7.out.blk
                  rw [← HN.out] at kb
                  have e0 := (kb.cell 0).trans (show _ = some (.slice (some ⟨g1, 0, none⟩) N N) from rfl)
                  have p1 := (KQ7.out.cell 1).trans (show _ = some (.int .i64 (ino : Int)) from rfl)
                  have x1 : W7.cell? ⟨g1, ino, none⟩ = some (.int .i64 z1) := (HT7.out.r1.cell ino).trans (by rw [cellsI_get _ ino (by rw [rowQ_len]; exact HIN.out), hz1]; simp [rowQ, List.getD, HIN.out])
                  have y1 := HT7.out.r1.frozen ino
                  clear b7 hW7 hz1b hz3b hz1 hz3 kb q0 q1 q2 cS cK HTq HTA KQ HOq
                  go_upto_region 18 with fail
                  obtain ⟨W8, hW8⟩ : ∃ W8, W8 = W7.setCell ⟨g1, ino, none⟩ (.int .i64 (z1 + 1)) := ⟨_, rfl⟩
                  rw [← hW8]
                  have HT8 := hide (show TlI L.length W1 g g1 g2 g3 _ _ _ true W8 from by rw [hW8]; exact TlI.set1 HT7.out ino (z1 + 1))
                  have KQ8 := hide (show Blk W8 dq #[.string nm, .int .i64 (ino : Int), .int .i64 (kd : Int)] 61 from by rw [hW8]; exact KQ7.out.other _ _ HD1.out.1)
                  have kb := HT8.out.blk
                  rw [← HN.out] at kb
                  have e0' := (kb.cell 1).trans (show _ = some (.slice (some ⟨g2, 0, none⟩) N N) from rfl)
                  have p1' := (KQ8.out.cell 1).trans (show _ = some (.int .i64 (ino : Int)) from rfl)
                  have x1' : W8.cell? ⟨g2, ino, none⟩ = some (.int .i64 (tfQ Q ino)) := (HT8.out.r2.cell ino).trans (by rw [cellsI_get _ ino (by rw [rowQ_len]; exact HIN.out)]; simp [rowQ, List.getD, HIN.out])
                  have y1' := HT8.out.r2.frozen ino
                  have HW8 := hide hW8
                  clear kb hW8 e0 p1 x1 y1
                  go_upto_region 19 with fail
                  obtain ⟨W9, hW9⟩ : ∃ W9, W9 = W8.setCell ⟨g2, ino, none⟩ (.int .i64 (k : Int)) := ⟨_, rfl⟩
                  rw [← hW9]
                  have HT9 := hide (show TlI L.length W1 g g1 g2 g3 _ _ _ true W9 from by rw [hW9]; exact TlI.set2 HT8.out ino (k : Int))
                  have KQ9 := hide (show Blk W9 dq #[.string nm, .int .i64 (ino : Int), .int .i64 (kd : Int)] 61 from by rw [hW9]; exact KQ8.out.other _ _ HD1.out.2.1)
                  have HO9 := hide (show W9.ownsRow Wa.heap.size 61 3 (.slice (some ⟨eb, 0, none⟩) m ec) m (entsC es) from by rw [hW9, HW8.out]; exact own_asideS (own_asideS HO7.out _ _ HLB.out.2.1) _ _ HLB.out.2.2.1)
                  have kb := HT9.out.blk
                  rw [← HN.out] at kb
                  have e2' := (kb.cell 2).trans (show _ = some (.slice (some ⟨g3, 0, none⟩) N N) from rfl)
                  have p2' := (KQ9.out.cell 2).trans (show _ = some (.int .i64 (kd : Int)) from rfl)
                  have x3' : W9.cell? ⟨g3, k, none⟩ = some (.int .i64 z3) := (HT9.out.r3.cell k).trans (by rw [cellsI_get _ k (by rw [rowQ_len]; exact HKL.out), HZ3.out]; simp [rowQ, List.getD, HKL.out])
                  have y3' := HT9.out.r3.frozen k
                  have HW9 := hide hW9
                  have HG2 := hide (show ∀ e ∈ es.take (j + 1), entOkB L k e = true from fun e he => by
                    rw [List.take_add_one, HEJ.out] at he
                    rcases List.mem_append.1 he with h | h
                    · exact HGJ.out e h
                    · simp at h; subst h; exact HGOOD.out)
                  clear kb hW9 e0' p1' x1' y1'
                  by_cases hd2 : kd = 2
                  · have hd3 : ((kd : Int) == 2) = true := by rw [hd2]; rfl
                    have HN9 := hide (show EnI L W1 g g1 g2 g3 (allQ L k ++ (es.take (j + 1)).map (fun e => (k, e))) (W9.setCell ⟨g3, k, none⟩ (.int .i64 (z3 + 1))) from by
                      rw [← HQN.out, HW9.out, HW8.out, HZ1.out, HZ3.out]
                      exact EnI.dir (e := (nm, ino, kd)) HT7.out hd2)
                    have HO10 := hide (show (W9.setCell ⟨g3, k, none⟩ (.int .i64 (z3 + 1))).ownsRow Wa.heap.size 61 3 (.slice (some ⟨eb, 0, none⟩) m ec) m (entsC es) from own_asideS HO9.out _ _ HLB.out.2.2.2)
                    clear hd2
                    go_wp2_with fail
                    go_roundw
                    case rel => exact ⟨j + 1, by omega, by go_num, HN9, HO10, HG2⟩
                    case measure => simp [intOf]; omega
                  · have hd3 : ((kd : Int) == 2) = false := by simp; omega
                    have HN9 := hide (show EnI L W1 g g1 g2 g3 (allQ L k ++ (es.take (j + 1)).map (fun e => (k, e))) W9 from by
                      rw [← HQN.out, HW9.out, HW8.out, HZ1.out]
                      exact EnI.file (e := (nm, ino, kd)) HT7.out hd2)
                    clear hd2
                    go_wp2_with fail
                    go_roundw
                    case rel => exact ⟨j + 1, by omega, by go_num, HN9, HO9, HG2⟩
                    case measure => simp [intOf]; omega
                · have hb4 : ((k : Int) == 1) = false := by simp; omega
                  clear h1 h2 h3 h4 hkv hk1
                  go_quiet (fail)
                  obtain ⟨W7, hW7⟩ : ∃ W7, W7 = Wq.drewN nq := ⟨_, rfl⟩
                  have b7 : Below Wq.heap.size Wq W7 := by rw [hW7]; exact Go.below_drewN (Below.refl _ _) nq
                  rw [← hW7]
                  have HT7 := hide (show TlI L.length W1 g g1 g2 g3 _ _ _ true W7 from TlI.below HTq.out b7)
                  have KQ7 := hide (KQ.out.below b7 KQ.out.lt)
                  have HO7 := hide (own_below HOq.out b7)
                  have HD1 := hide (show dq ≠ g1 ∧ dq ≠ g2 ∧ dq ≠ g3 from by have h1 := HLB.out; have h2 := HOS.out.1; have h3 := HDQ.out; omega)
                  obtain ⟨z1, hz1⟩ : ∃ z1, z1 = tnQ Q ino := ⟨_, rfl⟩
                  obtain ⟨z3, hz3⟩ : ∃ z3, z3 = tdQ Q k := ⟨_, rfl⟩
                  have hz1b := tnQ_bd Q ino
                  have hz3b := tdQ_bd Q k
                  rw [← hz1] at hz1b
                  rw [← hz3] at hz3b
                  have hz1c : 0 ≤ z1 ∧ z1 ≤ 8589942784 := by omega
                  have hz3c : 0 ≤ z3 ∧ z3 ≤ 8589942784 := by omega
                  obtain ⟨hz1d, hz1e⟩ := hz1c
                  obtain ⟨hz3d, hz3e⟩ := hz3c
                  have HZ1 := hide hz1
                  have HZ3 := hide hz3
                  have kb := HT7.out.blk
                  rw [← HN.out] at kb
                  have e0 := (kb.cell 0).trans (show _ = some (.slice (some ⟨g1, 0, none⟩) N N) from rfl)
                  have p1 := (KQ7.out.cell 1).trans (show _ = some (.int .i64 (ino : Int)) from rfl)
                  have x1 : W7.cell? ⟨g1, ino, none⟩ = some (.int .i64 z1) := (HT7.out.r1.cell ino).trans (by rw [cellsI_get _ ino (by rw [rowQ_len]; exact HIN.out), hz1]; simp [rowQ, List.getD, HIN.out])
                  have y1 := HT7.out.r1.frozen ino
                  clear b7 hW7 hz1b hz3b hz1 hz3 kb q0 q1 q2 cS cK HTq HTA KQ HOq
                  go_upto_region 18 with fail
                  obtain ⟨W8, hW8⟩ : ∃ W8, W8 = W7.setCell ⟨g1, ino, none⟩ (.int .i64 (z1 + 1)) := ⟨_, rfl⟩
                  rw [← hW8]
                  have HT8 := hide (show TlI L.length W1 g g1 g2 g3 _ _ _ true W8 from by rw [hW8]; exact TlI.set1 HT7.out ino (z1 + 1))
                  have KQ8 := hide (show Blk W8 dq #[.string nm, .int .i64 (ino : Int), .int .i64 (kd : Int)] 61 from by rw [hW8]; exact KQ7.out.other _ _ HD1.out.1)
                  have kb := HT8.out.blk
                  rw [← HN.out] at kb
                  have e0' := (kb.cell 1).trans (show _ = some (.slice (some ⟨g2, 0, none⟩) N N) from rfl)
                  have p1' := (KQ8.out.cell 1).trans (show _ = some (.int .i64 (ino : Int)) from rfl)
                  have x1' : W8.cell? ⟨g2, ino, none⟩ = some (.int .i64 (tfQ Q ino)) := (HT8.out.r2.cell ino).trans (by rw [cellsI_get _ ino (by rw [rowQ_len]; exact HIN.out)]; simp [rowQ, List.getD, HIN.out])
                  have y1' := HT8.out.r2.frozen ino
                  have HW8 := hide hW8
                  clear kb hW8 e0 p1 x1 y1
                  go_upto_region 19 with fail
                  obtain ⟨W9, hW9⟩ : ∃ W9, W9 = W8.setCell ⟨g2, ino, none⟩ (.int .i64 (k : Int)) := ⟨_, rfl⟩
                  rw [← hW9]
                  have HT9 := hide (show TlI L.length W1 g g1 g2 g3 _ _ _ true W9 from by rw [hW9]; exact TlI.set2 HT8.out ino (k : Int))
                  have KQ9 := hide (show Blk W9 dq #[.string nm, .int .i64 (ino : Int), .int .i64 (kd : Int)] 61 from by rw [hW9]; exact KQ8.out.other _ _ HD1.out.2.1)
                  have HO9 := hide (show W9.ownsRow Wa.heap.size 61 3 (.slice (some ⟨eb, 0, none⟩) m ec) m (entsC es) from by rw [hW9, HW8.out]; exact own_asideS (own_asideS HO7.out _ _ HLB.out.2.1) _ _ HLB.out.2.2.1)
                  have kb := HT9.out.blk
                  rw [← HN.out] at kb
                  have e2' := (kb.cell 2).trans (show _ = some (.slice (some ⟨g3, 0, none⟩) N N) from rfl)
                  have p2' := (KQ9.out.cell 2).trans (show _ = some (.int .i64 (kd : Int)) from rfl)
                  have x3' : W9.cell? ⟨g3, k, none⟩ = some (.int .i64 z3) := (HT9.out.r3.cell k).trans (by rw [cellsI_get _ k (by rw [rowQ_len]; exact HKL.out), HZ3.out]; simp [rowQ, List.getD, HKL.out])
                  have y3' := HT9.out.r3.frozen k
                  have HW9 := hide hW9
                  have HG2 := hide (show ∀ e ∈ es.take (j + 1), entOkB L k e = true from fun e he => by
                    rw [List.take_add_one, HEJ.out] at he
                    rcases List.mem_append.1 he with h | h
                    · exact HGJ.out e h
                    · simp at h; subst h; exact HGOOD.out)
                  clear kb hW9 e0' p1' x1' y1'
                  by_cases hd2 : kd = 2
                  · have hd3 : ((kd : Int) == 2) = true := by rw [hd2]; rfl
                    have HN9 := hide (show EnI L W1 g g1 g2 g3 (allQ L k ++ (es.take (j + 1)).map (fun e => (k, e))) (W9.setCell ⟨g3, k, none⟩ (.int .i64 (z3 + 1))) from by
                      rw [← HQN.out, HW9.out, HW8.out, HZ1.out, HZ3.out]
                      exact EnI.dir (e := (nm, ino, kd)) HT7.out hd2)
                    have HO10 := hide (show (W9.setCell ⟨g3, k, none⟩ (.int .i64 (z3 + 1))).ownsRow Wa.heap.size 61 3 (.slice (some ⟨eb, 0, none⟩) m ec) m (entsC es) from own_asideS HO9.out _ _ HLB.out.2.2.2)
                    clear hd2
                    go_wp2_with fail
                    go_roundw
                    case rel => exact ⟨j + 1, by omega, by go_num, HN9, HO10, HG2⟩
                    case measure => simp [intOf]; omega
                  · have hd3 : ((kd : Int) == 2) = false := by simp; omega
                    have HN9 := hide (show EnI L W1 g g1 g2 g3 (allQ L k ++ (es.take (j + 1)).map (fun e => (k, e))) W9 from by
                      rw [← HQN.out, HW9.out, HW8.out, HZ1.out]
                      exact EnI.file (e := (nm, ino, kd)) HT7.out hd2)
                    clear hd2
                    go_wp2_with fail
                    go_roundw
                    case rel => exact ⟨j + 1, by omega, by go_num, HN9, HO9, HG2⟩
                    case measure => simp [intOf]; omega
              · have hjj : j = es.length := by rw [← HM.out]; omega
                have HN2 := hide (show EnI L W1 g g1 g2 g3 (allQ L (k + 1)) wr from by
                  rw [allQ_succ, HES.out]
                  have h2 := HI.out
                  rw [hjj, List.take_length] at h2
                  exact h2)
                have HO2 := hide (HO.out.succ (fun _ => ⟨HDK.out, fun e he => by rw [HES.out] at he; exact HGJ.out e (by rw [hjj, List.take_length]; exact he)⟩))
                clear hjj
                go_wp2_with fail
                go_roundw
                case rel => exact ⟨k + 1, by omega, by go_num, HN2, HO2⟩
                case measure => simp [intOf]; omega
        · have hk3 : (x.k != 2) = true := by simpa using hk2
          have HN2 := hide (show EnI L W1 g g1 g2 g3 (allQ L (k + 1)) (wr.alloc (.cells #[.int .i64 x.k, .int .i64 x.l, .int .i64 x.m, .int .i64 x.u, .int .i64 x.g, .int .i64 x.p, .int .i64 x.e, .int .i64 x.t, .int .i64 x.c, .slice na q nc] 56)) from by
            rw [allQ_succ, show entN (ndAt L k) = [] from by unfold entN; rw [← HX.out, if_neg hk2], List.map_nil, List.append_nil]
            exact TlI.below HE.out HA1.out)
          have HO2 := hide (HO.out.succ (fun h2 => by rw [← HX.out] at h2; exact absurd h2 hk2))
          clear hk2
          go_wp2_with (refine wpList_load_mid rfl 56 _ rfl b (off + k * 10) rfl [.int .i64 x.k, .int .i64 x.l, .int .i64 x.m, .int .i64 x.u, .int .i64 x.g, .int .i64 x.p, .int .i64 x.e, .int .i64 x.t, .int .i64 x.c, .slice na q nc] _ HRG.out Tryz.underlying56 rfl infoNd ?_)
          go_roundw
          case rel => exact ⟨k + 1, by omega, by go_num, HN2, HO2⟩
          case measure => simp [intOf]; omega
      · have hkN : k = L.length := by rw [← HN.out]; omega
        have HOK := hide (show EntTo L L.length from by rw [← hkN]; exact HO.out)
        have HE2 := hide (show EnI L W1 g g1 g2 g3 (allQ L L.length) wr from by rw [← hkN]; exact HE.out)
        clear hkN HE HO
        have kb := HE2.out.blk
        rw [← HN.out] at kb
        have KBE := hide kb
        have KB2 := hide (K2.out.below HE2.out.bel K2.out.lt)
        have TS := hide (TlI.rows HE2.out (w.heap.size + 1) #[.slice (some ⟨g1, 0, none⟩) N N, .slice (some ⟨g2, 0, none⟩) N N, .slice (some ⟨g3, 0, none⟩) N N, .bool true] (by have := K2.out.lt; omega))
        have BB := hide (below_setRow (BW.out.trans (HE2.out.bel.mono BW.out.size)) (show w.heap.size ≤ w.heap.size + 1 by omega) (#[.slice (some ⟨g1, 0, none⟩) N N, .slice (some ⟨g2, 0, none⟩) N N, .slice (some ⟨g3, 0, none⟩) N N, .bool true]))
        clear kb
        go_wp2_with (first | (refine wpList_load_row rfl 123 _ rfl g rfl 123 #[.slice (some ⟨g1, 0, none⟩) N N, .slice (some ⟨g2, 0, none⟩) N N, .slice (some ⟨g3, 0, none⟩) N N, .bool true] (0, 0) _ KBE.out Tryz.underlying123 rfl infoTl ?_) | (refine wpList_store_row rfl 123 _ _ rfl (w.heap.size + 1) #[.slice (some ⟨g1, 0, none⟩) N N, .slice (some ⟨g2, 0, none⟩) N N, .slice (some ⟨g3, 0, none⟩) N N, .bool true] rfl rfl 123 _ KB2.out infoTl rfl (tl_one _ _ _ _ _) ?_))
        refine bodyPost_ret (v := .agg #[.slice (some ⟨g1, 0, none⟩) N N, .slice (some ⟨g2, 0, none⟩) N N, .slice (some ⟨g3, 0, none⟩) N N, .bool true]) ?_ rfl ?_
        · exact results_cell_row rfl _ _ (w.heap.size + 1) 123 #[.slice (some ⟨g1, 0, none⟩) N N, .slice (some ⟨g2, 0, none⟩) N N, .slice (some ⟨g3, 0, none⟩) N N, .bool true] (0, 0) _ rfl (KB2.out.row _) Tryz.underlying123 rfl infoTl
        · exact ⟨_, _, _, true, rfl, ⟨fun _ => HOK.out, fun _ => rfl⟩, fun _ => ⟨row_rd TS.out.1 (by rw [rowQ_len, HN.out]) hL, row_rd TS.out.2.1 (by rw [rowQ_len, HN.out]) hL, row_rd TS.out.2.2 (by rw [rowQ_len, HN.out]) hL⟩, BB.out, _, _, _, _, _, _, _, _, _, rfl, rfl, rfl⟩
end Go.Proofs.YtplieplmhdfndaaGreatDoor
