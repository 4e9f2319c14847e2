/- The law on ChooseFsinfo, walked: it answers true and turns nothing that was there. -/
import Derived.Test.YtfkmnmopkblopaaDoorZk46
namespace Go.Proofs.YtfkmnmopkblopaaDoor
set_option linter.unusedVariables false
set_option linter.unusedSimpArgs false
open Go.RowKit

theorem choR_fs (zs : List Int) : ∃ gen bl cu ck op ev lg s1 ds1 p1 q1 s2 ds2 p2 q2 sn, ds1.length = 12 ∧ ds2.length = 12 ∧ sn.length = 31 ∧ choR zs = fsI gen bl cu ck op ev lg s1 ds1 p1 q1 s2 ds2 p2 q2 sn := by
  have h0 : ∃ gen bl cu ck op ev lg s1 ds1 p1 q1 s2 ds2 p2 q2 sn, ds1.length = 12 ∧ ds2.length = 12 ∧ sn.length = 31 ∧ noFs = fsI gen bl cu ck op ev lg s1 ds1 p1 q1 s2 ds2 p2 q2 sn := ⟨0, 0, 0, 0, 0, 0, 0, 0, List.replicate 12 0, 0, 0, 0, List.replicate 12 0, 0, 0, List.replicate 31 0, rfl, rfl, rfl, rfl⟩
  unfold choR
  split
  · split
    · exact h0
    · exact decFs_fs _
  · exact h0
set_option maxRecDepth 100000 in
set_option maxHeartbeats 2000000 in
theorem lawCho (v0 : Value) (ws : List Int) (w : World) (h : Rd .u8 w v0 ws) (hbd : ∀ z ∈ ws, 0 ≤ z ∧ z < 256) (hg : ErrT w) (hL : LetF w) :
    Calls Tryd.prog 3 #[v0] w fun e w' => e = .returned (.bool true) ∧ Below w.heap.size w w' := by
  have hm := h.len
  unfold maxLen at hm
  have hsh : ∃ a cap, v0 = .slice a ws.length cap := by obtain ⟨a, cap, h1, _⟩ := h; exact ⟨a, cap, h1⟩
  obtain ⟨a0, cap0, rfl⟩ := hsh
  have H := hide (And.intro h hg)
  have HLt := hide hL
  have HB := hide hbd
  clear h hg hbd hL
  by_cases hbig : (1048576 : Int) < (ws.length : Int)
  · go_enter Tryd.func3, Tryd.ntmps3
    go_wp2
    go_ret
    exact ⟨rfl, Below.refl _ _⟩
  · have hsm : ws.length ≤ 1048576 := by omega
    clear hbig
    have HS := hide (fun (v : Value) (w : World) (hr : Rd .u8 w v ws) => specCh_any v ws w hr HB.out (by omega))
    have HI := hide (fun (v : Value) (w : World) (hr : Rd .u8 w v ws) (hg : ErrT w) (hL : LetF w) => implCh_any v ws w hr HB.out (by omega) hg hL)
    have HR := hide (choR_fs ws)
    generalize choR ws = R at HS HI HR
    generalize choS ws = sl at HS HI
    generalize choC ws = c at HS HI
    obtain ⟨gen, bl, cu, ck, op, ev, lg, s1, ds1, p1, q1, s2, ds2, p2, q2, sn, hd1, hd2, hsn, hR⟩ := HR.out
    have HZ := hide (show (cellsI R).size = 68 from by rw [hR, cellsI_size]; exact fsI_len _ _ _ _ _ _ _ _ _ _ _ _ _ _ _ _ hd1 hd2 hsn)
    have HQ := hide (show ∀ w : World, Calls Tryd.prog 7 #[.agg (cellsI R), .agg (cellsI R)] w fun e w' => e = .returned (.bool true) ∧ Below w.heap.size w w' from fun w => by rw [hR]; exact eqFs_same gen bl cu ck op ev lg s1 ds1 p1 q1 s2 ds2 p2 q2 sn w hd1 hd2 hsn)
    have hcc : (c != c) = false := by simp
    have hss : (sl != sl) = false := by simp
    clear hR hd1 hd2 hsn HR
    go_enter Tryd.func3, Tryd.ntmps3
    go_wp2_with fail
    refine (toByteS_any _ ws _ H.out.1 (by omega)).mono ?_
    rintro e w1 ⟨v1, rfl, o1, b1⟩
    have R1 := hide (Rd.own o1)
    have B1 := hide b1
    clear o1 b1
    go_wp2_with fail
    refine (HS.out v1 _ R1.out).mono ?_
    rintro e w2 ⟨rfl, b2⟩
    have B2 := hide (B1.out.trans (b2.mono B1.out.size))
    clear b2 R1 B1
    have K2 := hide (show Blk ((w2.alloc (.cells Tryd.zeroCells28 28)).setRow w2.heap.size (cellsI R)) w2.heap.size (cellsI R) 28 ∧ Below w.heap.size w ((w2.alloc (.cells Tryd.zeroCells28 28)).setRow w2.heap.size (cellsI R)) from ⟨(Blk.new w2 Tryd.zeroCells28 28).row _, below_setRow (B2.out.alloc B2.out.size _) B2.out.size _⟩)
    go_wp2_with (first | (refine wpList_store_row rfl 28 _ _ rfl w2.heap.size (cellsI R) rfl rfl 28 _ (Blk.new w2 Tryd.zeroCells28 28) (by rw [HZ.out]; exact info68) (by rw [HZ.out]; rfl) (cellsI_one _) ?_) | (go_at_call 5; fail))
    generalize hW3 : ((w2.alloc (.cells Tryd.zeroCells28 28)).setRow w2.heap.size (cellsI R)) = w3 at K2 ⊢
    clear hW3
    refine (toByteS_any _ ws _ (H.out.1.below K2.out.2) (by omega)).mono ?_
    rintro e w4 ⟨x0, rfl, o4, b4⟩
    have X4 := hide o4
    have K4 := hide (And.intro (K2.out.1.below b4 K2.out.1.lt) (K2.out.2.trans (b4.mono K2.out.2.size)))
    clear o4 b4 K2
    go_wp2_with fail
    refine (HI.out x0 _ (Rd.own X4.out) (H.out.2.below K4.out.2) (HLt.out.below K4.out.2)).mono ?_
    rintro e w5 ⟨rfl, b5⟩
    have X5 := hide (own_below X4.out b5)
    have K5 := hide (And.intro (K4.out.1.below b5 K4.out.1.lt) (K4.out.2.trans (b5.mono K4.out.2.size)))
    clear b5 K4 X4
    have hlt5 := K5.out.1.lt
    have K6 := hide (show Blk ((w5.alloc (.cells Tryd.zeroCells28 28)).setRow w5.heap.size (cellsI R)) w5.heap.size (cellsI R) 28 ∧ Blk ((w5.alloc (.cells Tryd.zeroCells28 28)).setRow w5.heap.size (cellsI R)) w2.heap.size (cellsI R) 28 ∧ Below w.heap.size w ((w5.alloc (.cells Tryd.zeroCells28 28)).setRow w5.heap.size (cellsI R)) ∧ Below w5.heap.size w5 ((w5.alloc (.cells Tryd.zeroCells28 28)).setRow w5.heap.size (cellsI R)) from ⟨(Blk.new w5 Tryd.zeroCells28 28).row _, (setRow_block _ _ _ _ (by omega)).trans (K5.out.1.alloc _), below_setRow (K5.out.2.alloc K5.out.2.size _) K5.out.2.size _, below_setRow ((Below.refl _ _).alloc (Nat.le_refl _) _) (Nat.le_refl _) _⟩)
    go_wp2_with (first | (refine wpList_store_row rfl 28 _ _ rfl w5.heap.size (cellsI R) rfl rfl 28 _ (Blk.new w5 Tryd.zeroCells28 28) (by rw [HZ.out]; exact info68) (by rw [HZ.out]; rfl) (cellsI_one _) ?_) | (refine wpList_load_row rfl 28 _ rfl w5.heap.size rfl 28 (cellsI R) (0, 0) _ K6.out.1 Tryd.underlying28 rfl (by rw [HZ.out]; exact info68) ?_) | (refine wpList_load_row rfl 28 _ rfl w2.heap.size rfl 28 (cellsI R) (0, 0) _ K6.out.2.1 Tryd.underlying28 rfl (by rw [HZ.out]; exact info68) ?_) | (go_at_call 7; fail))
    have X6 := hide (own_below X5.out K6.out.2.2.2)
    have B6 := hide K6.out.2.2.1
    generalize hW6 : ((w5.alloc (.cells Tryd.zeroCells28 28)).setRow w5.heap.size (cellsI R)) = w6 at X6 B6 ⊢
    clear hW6 K6 X5
    refine (HQ.out _).mono ?_
    rintro e w7 ⟨rfl, b7⟩
    have X7 := hide (own_below X6.out b7)
    have B7 := hide (B6.out.trans (b7.mono B6.out.size))
    clear b7 X6 B6
    go_wp2_with fail
    refine (toByteS_any _ ws _ (H.out.1.below B7.out) (by omega)).mono ?_
    rintro e w8 ⟨t0, rfl, o8, b8⟩
    have T8 := hide (Rd.own o8)
    have X8 := hide (own_below X7.out b8)
    have B8 := hide (B7.out.trans (b8.mono B7.out.size))
    clear o8 b8 X7 B7
    go_wp2_with fail
    refine (eqByteS_same x0 t0 ws _ (Rd.own X8.out) T8.out).mono ?_
    rintro e w9 ⟨rfl, b9⟩
    have B9 := hide (B8.out.trans (b9.mono B8.out.size))
    clear b9 X8 B8 T8
    go_wp2
    go_ret
    exact ⟨rfl, B9.out⟩
end Go.Proofs.YtfkmnmopkblopaaDoor
