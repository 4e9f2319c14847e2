/- The model's ParseLine, walked. -/
import Derived.Test.YtnljpaohkkdjjaaGreatDoorPmH
namespace Go.Proofs.YtnljpaohkkdjjaaGreatDoor
set_option linter.unusedVariables false
set_option linter.unusedSimpArgs false
open Go.RowKit

theorem rd_none (w : World) : Rd .u8 w (.slice none 0 0) [] := ⟨none, 0, rfl, by simp, fun h => absurd rfl h, by simp, by simp⟩
theorem row_words {w : World} {base n : Nat} {v : Value} {x : List UInt8} {xs : List (List UInt8)} (h : w.ownsRow base 9 1 v n ((x :: xs).map fun y => Value.string (mk y))) :
    ∃ g cap, v = .slice (some ⟨g, 0, none⟩) n cap ∧ n = xs.length + 1 ∧ g < w.heap.size ∧ w.cell? ⟨g, 0, none⟩ = some (.string (mk x)) ∧ ∀ (i : Nat) (y : List UInt8), xs[i]? = some y → w.cell? ⟨g, i + 1, none⟩ = some (.string (mk y)) := by
  have hn : n = xs.length + 1 := by have := h.1; simp at this; omega
  have hr := h
  rcases h.2 with ⟨rfl, e0⟩ | ⟨g, cap, cur, rfl, hb, hg, hcap, hcm, _⟩
  · omega
  have hc : ∀ (j : Nat) (u : Value), ((x :: xs).map fun y => Value.string (mk y))[j]? = some u → w.cell? ⟨g, j, none⟩ = some u := fun j u hu => by
    have := hr.cells (g := g) rfl j u hu
    rw [Addr.add_mid, Nat.zero_add] at this
    exact this
  exact ⟨g, cap, rfl, hn, (Array.getElem?_eq_some_iff.1 hg).1, hc 0 _ rfl, fun i y hy => hc (i + 1) _ (by simp [hy])⟩
theorem nnF_num (nn : Nat) (f : UInt8) (h : f = 110 ∨ f = 109) : nnF nn f = nn + 1 := by unfold nnF; rw [if_pos h]
theorem nnF_txt (nn : Nat) (f : UInt8) (h1 : f ≠ 110) (h2 : f ≠ 109) : nnF nn f = nn := by unfold nnF; rw [if_neg (by rintro (h | h) <;> contradiction)]
theorem putF_A (st : OpD) (f : UInt8) (y : Int × List UInt8) (h : f = 110 ∨ f = 109) : putF st 0 f y = { st with A := y.1 } := by unfold putF; rw [if_pos h, if_pos rfl]
theorem putF_B (st : OpD) (nn : Nat) (f : UInt8) (y : Int × List UInt8) (h : f = 110 ∨ f = 109) (hn : nn ≠ 0) : putF st nn f y = { st with B := y.1 } := by unfold putF; rw [if_pos h, if_neg hn]
theorem putF_p (st : OpD) (nn : Nat) (y : Int × List UInt8) : putF st nn 112 y = { st with p := y.2 } := rfl
theorem putF_q (st : OpD) (nn : Nat) (y : Int × List UInt8) : putF st nn 113 y = { st with q := y.2 } := rfl
theorem putF_d (st : OpD) (nn : Nat) (f : UInt8) (y : Int × List UInt8) (h1 : f ≠ 110) (h2 : f ≠ 109) (h3 : f ≠ 112) (h4 : f ≠ 113) : putF st nn f y = { st with d := y.2 } := by
  unfold putF; rw [if_neg (by rintro (h | h) <;> contradiction), if_neg h3, if_neg h4]
theorem form_V {x : List UInt8} {k : Nat} (h : cmdAt x = some k) : formV (mk x).data.toList = .tuple #[.string (mk (cmdF.getD k [])), .int .i64 ((k : Int) + 1)] := by rw [mk_toList]; exact formV_hit h
theorem form_N {x : List UInt8} (h : cmdAt x = none) : formV (mk x).data.toList = .tuple #[.string ⟨#[]⟩, .int .i64 0] := by rw [mk_toList]; exact formV_miss h
theorem not2 {f : UInt8} (h1 : f ≠ 110) (h2 : f ≠ 109) : ((f.toNat : Int) == 110) = false ∧ ((f.toNat : Int) == 109) = false := by
  have a : f.toNat ≠ 110 := fun h => h1 (UInt8.toNat_inj.1 h)
  have b : f.toNat ≠ 109 := fun h => h2 (UInt8.toNat_inj.1 h)
  exact ⟨by simp; omega, by simp; omega⟩
theorem not3 {f : UInt8} (h1 : f ≠ 112) (h2 : f ≠ 113) : ((f.toNat : Int) == 112) = false ∧ ((f.toNat : Int) == 113) = false := by
  have a : f.toNat ≠ 112 := fun h => h1 (UInt8.toNat_inj.1 h)
  have b : f.toNat ≠ 113 := fun h => h2 (UInt8.toNat_inj.1 h)
  exact ⟨by simp; omega, by simp; omega⟩
set_option maxRecDepth 100000 in
set_option maxHeartbeats 8000000 in
theorem specPL_any (s : ByteArray) (w : World) (hs : s.size ≤ 1048576) :
    Calls Tryz.prog 4 #[.string s] w fun e w' => ∃ dv, e = .returned (.tuple #[.agg (opL (ansL (parseL s.data.toList)) dv), .int .i64 (ansL (parseL s.data.toList)).2.2]) ∧ Rd .u8 w' dv ((ansL (parseL s.data.toList)).2.1.d.map fun c => (c.toNat : Int)) ∧ Below w.heap.size w w' := by
  have HLL := hide (show s.data.toList.length = s.size from rfl)
  obtain ⟨W, hW⟩ : ∃ W, W = w.alloc (.cells #[.int .i64 0, .int .i64 0, .int .i64 0, .int .i64 0, .int .i64 0, .string ⟨#[]⟩, .string ⟨#[]⟩, .slice none 0 0] 24) := ⟨_, rfl⟩
  have hB : Blk W w.heap.size noOp 24 := by rw [hW]; exact Blk.new w _ _
  have hbl : Below w.heap.size w W := by rw [hW]; exact (Below.refl _ _).alloc (Nat.le_refl _) _
  have HW := hide hW
  have HB := hide hB
  have HBL := hide hbl
  clear hW hB hbl
  by_cases hL : 2048 < s.size
  · have HP := hide (parse_large (l := s.data.toList) (by rw [HLL.out]; exact hL))
    have hL2 : (2048 : Int) < (s.size : Int) := by omega
    go_enter Tryz.func4, Tryz.ntmps4
    go_upto_region 1 with fail
    rw [← HW.out]
    go_wp2_with (refine wpList_store_row rfl 24 _ _ rfl w.heap.size noOp rfl rfl 24 _ HB.out infoO8 rfl noOp_one ?_)
    exact bodyPost_ret (v := .tuple #[.agg noOp, .int .i64 23]) (results_row_tmp rfl _ _ w.heap.size 24 noOp (0, 0) _ _ rfl rfl (HB.out.row noOp) Tryz.underlying24 rfl infoO8) rfl ⟨.slice none 0 0, by rw [HP.out]; rfl, by rw [HP.out]; exact rd_none _, below_setRowP HBL.out (Nat.le_refl _) _⟩
  have hL2 : ¬ (2048 : Int) < (s.size : Int) := by omega
  have HNL := hide (show ¬ 2048 < s.data.toList.length from by rw [HLL.out]; exact hL)
  go_enter Tryz.func4, Tryz.ntmps4
  go_upto_region 1 with fail
  rw [← HW.out]
  go_wp2_with (go_at_call 9; fail)
  refine (words_any s _ hs).mono ?_
  rintro e w1 ⟨v1, rfl, o1, b1⟩
  have HB1 := hide (HB.out.below b1 HB.out.lt)
  have HBL1 := hide (HBL.out.trans (b1.mono HBL.out.size))
  clear b1 HB HBL HW
  cases hws : wordsL s.data.toList with
  | nil =>
    rw [hws] at o1
    have HP := hide (parse_none HNL.out hws)
    obtain ⟨va, vc, rfl⟩ := own_shapeT o1
    clear o1 hws
    go_wp2_with (refine wpList_store_row rfl 24 _ _ rfl w.heap.size noOp rfl rfl 24 _ HB1.out infoO8 rfl noOp_one ?_)
    exact bodyPost_ret (v := .tuple #[.agg noOp, .int .i64 25]) (results_row_tmp rfl _ _ w.heap.size 24 noOp (0, 0) _ _ rfl rfl (HB1.out.row noOp) Tryz.underlying24 rfl infoO8) rfl ⟨.slice none 0 0, by rw [HP.out]; rfl, by rw [HP.out]; exact rd_none _, below_setRowP HBL1.out (Nat.le_refl _) _⟩
  | cons x xs =>
    rw [hws] at o1
    have HWS := hide hws
    have hsl := str_len hws
    rw [HLL.out] at hsl
    have HSL := hide hsl
    obtain ⟨g, cap, rfl, hn, hg1, c0, hcs⟩ := row_words (x := x) (xs := xs) o1
    obtain ⟨n, hnn⟩ : ∃ n, n = (x :: xs).length := ⟨_, rfl⟩
    have hn1 : n = xs.length + 1 := by rw [hnn]; rfl
    rw [← hnn]
    have hn2 : 1 ≤ n ∧ n ≤ 1048577 := by omega
    have HN1 := hide hn1
    have HCS := hide (And.intro hg1 hcs)
    clear o1 hws hsl hn hnn hn1 hcs hg1
    cases hc : cmdAt x with
    | none =>
      have HP := hide (parse_word HNL.out HWS.out hc)
      have HFV := hide (form_N hc)
      clear hc
      go_wp2_with (go_at_call 10; fail)
      refine (form_any (mk x) _).mono ?_
      rw [HFV.out]
      rintro e w2 ⟨rfl, b2⟩
      have HB2 := hide (HB1.out.below b2 HB1.out.lt)
      have HBL2 := hide (HBL1.out.trans (b2.mono HBL1.out.size))
      clear b2
      go_wp2_with (refine wpList_store_row rfl 24 _ _ rfl w.heap.size noOp rfl rfl 24 _ HB2.out infoO8 rfl noOp_one ?_)
      exact bodyPost_ret (v := .tuple #[.agg noOp, .int .i64 25]) (results_row_tmp rfl _ _ w.heap.size 24 noOp (0, 0) _ _ rfl rfl (HB2.out.row noOp) Tryz.underlying24 rfl infoO8) rfl ⟨.slice none 0 0, by rw [HP.out]; rfl, by rw [HP.out]; exact rd_none _, below_setRowP HBL2.out (Nat.le_refl _) _⟩
    | some k0 =>
      have hk27 := cmd_lt hc
      have HC := hide hc
      have HFV := hide (form_V hc)
      obtain ⟨F, hF⟩ : ∃ F, F = cmdF.getD k0 [] := ⟨_, rfl⟩
      rw [← hF] at HFV
      have HF := hide hF
      have hFs : (mk F).size ≤ 4096 := by rw [mk_size, hF]; exact cmdF_small k0 hk27
      clear hc hF
      go_wp2_with (go_at_call 10; fail)
      refine (form_any (mk x) _).mono ?_
      rw [HFV.out]
      rintro e w2 ⟨rfl, b2⟩
      have HB2 := hide (HB1.out.below b2 HB1.out.lt)
      have HBL2 := hide (HBL1.out.trans (b2.mono HBL1.out.size))
      have HCS2 := hide (show g < w2.heap.size ∧ ∀ (i : Nat) (y : List UInt8), xs[i]? = some y → w2.cell? ⟨g, i + 1, none⟩ = some (.string (mk y)) from ⟨Nat.lt_of_lt_of_le HCS.out.1 b2.size, fun i y hy => (b2.cell (p := ⟨g, i + 1, none⟩) HCS.out.1).trans (HCS.out.2 i y hy)⟩)
      clear b2 HB1 HBL1 HCS
      have hk1 : ((k0 : Int) + 1 == 0) = false := by simp; omega
      by_cases hne : xs.length = F.length
      · have HPR := hide (show parseL s.data.toList = (runF opD0 0 F xs).map (fun st => (k0 + 1, st)) from by rw [HF.out]; exact parse_run HNL.out HWS.out HC.out (by rw [← HF.out]; exact hne))
        obtain ⟨N, hN⟩ : ∃ N, N = xs.length := ⟨_, rfl⟩
        have hnN : n = N + 1 := by rw [hN]; exact HN1.out
        have hmF : (mk F).size = N := by rw [mk_size, ← hne, hN]
        have HNN := hide (And.intro hN (show N = F.length from by rw [hN]; exact hne))
        subst hnN
        have hN4 : N ≤ 4096 := by rw [← hmF]; exact hFs
        have HKK := hide hk27
        clear hne hN HN1 hk27 hFs
        obtain ⟨W5, hW5⟩ : ∃ W5, W5 = w2.alloc (.cells #[.int .i64 ((k0 : Int) + 1), .int .i64 0, .int .i64 0, .int .i64 0, .int .i64 0, .string ⟨#[]⟩, .string ⟨#[]⟩, .slice none 0 0] 24) := ⟨_, rfl⟩
        have P0 := hide (show PsI w2 F xs ((k0 : Int) + 1) 0 0 opD0 (.slice none 0 0) W5 from ⟨by rw [hW5]; exact Blk.new w2 _ _, .inl ⟨rfl, rfl⟩, by rw [hW5]; exact (Below.refl _ _).alloc (Nat.le_refl _) _, by simp⟩)
        have HW5 := hide hW5
        clear hW5
        go_upto_region 12 with fail
        rw [← HW5.out]
        clear hk1
        go_wp2_with fail
        go_loopw [8, 9] (fun nv iv wr => ∃ (k m : Nat) (st : OpD) (dv : Value), k ≤ N ∧ m ≤ k ∧ nv = .int .i64 (m : Int) ∧ iv = .int .i64 (k : Int) ∧ Hid (PsI w2 F xs ((k0 : Int) + 1) k m st dv wr)) (fun _ iv _ => N - (intOf iv).toNat)
        case atStart => exact ⟨0, 0, opD0, _, Nat.zero_le _, Nat.le_refl _, rfl, rfl, P0⟩
        case round =>
          obtain ⟨k, m, st, dv, hk, hm, rfl, rfl, HR⟩ := hrel
          obtain ⟨da, dn, dc, rfl⟩ := HR.out.dat.shape
          have HBr := hide (HB2.out.below HR.out.fr HB2.out.lt)
          have HBLr := hide (HBL2.out.trans (HR.out.fr.mono HBL2.out.size))
          clear P0
          by_cases hlt : k < N
          · obtain ⟨y, hy⟩ : ∃ y, xs[k]? = some y := ⟨_, List.getElem?_eq_getElem (by rw [← HNN.out.1]; exact hlt)⟩
            obtain ⟨f, hf⟩ : ∃ f, F[k]? = some f := ⟨_, List.getElem?_eq_getElem (by rw [← HNN.out.2]; exact hlt)⟩
            have c1 : wr.cell? ⟨g, k + 1, none⟩ = some (.string (mk y)) := (HR.out.fr.cell (p := ⟨g, k + 1, none⟩) HCS2.out.1).trans (HCS2.out.2 k y hy)
            have hys : (mk y).size ≤ 1048576 := by rw [mk_size]; exact Nat.le_trans (HSL.out.1 y (List.mem_of_getElem? hy)) hs
            have hyd := mk_toList y
            have HY := hide hy
            have HFF := hide hf
            have hkb : k + 1 < N + 1 := by omega
            clear hy hf
            by_cases e110 : f = 110
            · subst e110
              have hix : ∀ Wx, (Instr.index 9 (.string (mk F)) (.int .i64 (k : Int))).run Tryz.prog Wx = .ok (.int .u8 110) Wx := form_ix F k 110 HFF.out
              cases hok : numOk y with
              | false =>
                have HS := hide (show sayF 110 y = .error 27 from by unfold sayF; simp [hok])
                have HP := hide (show parseL s.data.toList = .error 27 from by rw [HPR.out, ps_bad HR.out HFF.out HY.out HS.out]; rfl)
                go_wp2_with (go_at_call 11; fail)
                refine (number_any (mk y) wr hys).mono ?_
                rw [hyd, hok]
                rintro e w3 ⟨vn, rfl, hvn, b3⟩
                have HB3 := hide (HBr.out.below b3 HBr.out.lt)
                have HBL3 := hide (HBLr.out.trans (b3.mono HBLr.out.size))
                clear b3 hvn hok
                go_wp2_with (refine wpList_store_row rfl 24 _ _ rfl w.heap.size noOp rfl rfl 24 _ HB3.out infoO8 rfl noOp_one ?_)
                exact bodyPost_ret (v := .tuple #[.agg noOp, .int .i64 27]) (results_row_tmp rfl _ _ w.heap.size 24 noOp (0, 0) _ _ rfl rfl (HB3.out.row noOp) Tryz.underlying24 rfl infoO8) rfl ⟨.slice none 0 0, by rw [HP.out]; rfl, by rw [HP.out]; exact rd_none _, below_setRowP HBL3.out (Nat.le_refl _) _⟩
              | true =>
                have HS := hide (show sayF 110 y = .ok (numV y, []) from by unfold sayF; simp [hok])
                by_cases hm0 : m = 0
                · subst hm0
                  go_wp2_with (go_at_call 11; fail)
                  refine (number_any (mk y) wr hys).mono ?_
                  rw [hyd, hok]
                  rintro e w3 ⟨vn, rfl, hvn, b3⟩
                  obtain rfl := hvn rfl
                  have HR3 := hide (HR.out.below b3)
                  clear b3 hvn
                  have d1 := (HR3.out.blk.cell 1).trans (show _ = some (.int .i64 st.A) from rfl)
                  have f1 := HR3.out.blk.frozen 1
                  have HN := hide (ps_set HR3.out HFF.out HY.out HS.out 1 (.int .i64 (numV y)) (putF_A st 110 (numV y, []) (by decide)) rfl rfl)
                  rw [nnF_num _ _ (by decide)] at HN
                  clear hok
                  go_wp2_with fail
                  go_roundw
                  case rel => exact ⟨k + 1, 0 + 1, _, _, by omega, by omega, by go_num, by go_num, HN⟩
                  case measure => simp [intOf]; omega
                · have hm1 : ¬ (m : Int) = 0 := by omega
                  go_wp2_with (go_at_call 11; fail)
                  refine (number_any (mk y) wr hys).mono ?_
                  rw [hyd, hok]
                  rintro e w3 ⟨vn, rfl, hvn, b3⟩
                  obtain rfl := hvn rfl
                  have HR3 := hide (HR.out.below b3)
                  clear b3 hvn
                  have d1 := (HR3.out.blk.cell 2).trans (show _ = some (.int .i64 st.B) from rfl)
                  have f1 := HR3.out.blk.frozen 2
                  have HN := hide (ps_set HR3.out HFF.out HY.out HS.out 2 (.int .i64 (numV y)) (putF_B st m 110 (numV y, []) (by decide) hm0) rfl rfl)
                  rw [nnF_num _ _ (by decide)] at HN
                  clear hok
                  go_wp2_with fail
                  go_roundw
                  case rel => exact ⟨k + 1, m + 1, _, _, by omega, by omega, by go_num, by go_num, HN⟩
                  case measure => simp [intOf]; omega
            by_cases e109 : f = 109
            · subst e109
              have hix : ∀ Wx, (Instr.index 9 (.string (mk F)) (.int .i64 (k : Int))).run Tryz.prog Wx = .ok (.int .u8 109) Wx := form_ix F k 109 HFF.out
              cases hok : modeOk y with
              | false =>
                have HS := hide (show sayF 109 y = .error 27 from by unfold sayF; simp [hok])
                have HP := hide (show parseL s.data.toList = .error 27 from by rw [HPR.out, ps_bad HR.out HFF.out HY.out HS.out]; rfl)
                go_wp2_with (go_at_call 11; fail)
                refine (number_any (mk y) wr hys).mono ?_
                rw [hyd]
                rintro e w3 ⟨vn, rfl, hvn, b3⟩
                clear hvn
                go_wp2_with (go_at_call 12; fail)
                refine (mode_any (mk y) w3 hys).mono ?_
                rw [hyd, modeR_no hok]
                rintro e w4 ⟨rfl, e4⟩
                rw [e4]
                clear e4 w4
                have HB3 := hide (HBr.out.below b3 HBr.out.lt)
                have HBL3 := hide (HBLr.out.trans (b3.mono HBLr.out.size))
                clear b3 hok
                go_wp2_with (refine wpList_store_row rfl 24 _ _ rfl w.heap.size noOp rfl rfl 24 _ HB3.out infoO8 rfl noOp_one ?_)
                exact bodyPost_ret (v := .tuple #[.agg noOp, .int .i64 27]) (results_row_tmp rfl _ _ w.heap.size 24 noOp (0, 0) _ _ rfl rfl (HB3.out.row noOp) Tryz.underlying24 rfl infoO8) rfl ⟨.slice none 0 0, by rw [HP.out]; rfl, by rw [HP.out]; exact rd_none _, below_setRowP HBL3.out (Nat.le_refl _) _⟩
              | true =>
                have HS := hide (show sayF 109 y = .ok (modeI y, []) from by unfold sayF; simp [hok])
                by_cases hm0 : m = 0
                · subst hm0
                  go_wp2_with (go_at_call 11; fail)
                  refine (number_any (mk y) wr hys).mono ?_
                  rw [hyd]
                  rintro e w3 ⟨vn, rfl, hvn, b3⟩
                  clear hvn
                  go_wp2_with (go_at_call 12; fail)
                  refine (mode_any (mk y) w3 hys).mono ?_
                  rw [hyd, modeR_yes hok]
                  rintro e w4 ⟨rfl, e4⟩
                  rw [e4]
                  clear e4 w4
                  have HR3 := hide (HR.out.below b3)
                  clear b3
                  have d1 := (HR3.out.blk.cell 1).trans (show _ = some (.int .i64 st.A) from rfl)
                  have f1 := HR3.out.blk.frozen 1
                  have HN := hide (ps_set HR3.out HFF.out HY.out HS.out 1 (.int .i64 (modeI y)) (putF_A st 109 (modeI y, []) (by decide)) rfl rfl)
                  rw [nnF_num _ _ (by decide)] at HN
                  clear hok
                  go_wp2_with fail
                  go_roundw
                  case rel => exact ⟨k + 1, 0 + 1, _, _, by omega, by omega, by go_num, by go_num, HN⟩
                  case measure => simp [intOf]; omega
                · have hm1 : ¬ (m : Int) = 0 := by omega
                  go_wp2_with (go_at_call 11; fail)
                  refine (number_any (mk y) wr hys).mono ?_
                  rw [hyd]
                  rintro e w3 ⟨vn, rfl, hvn, b3⟩
                  clear hvn
                  go_wp2_with (go_at_call 12; fail)
                  refine (mode_any (mk y) w3 hys).mono ?_
                  rw [hyd, modeR_yes hok]
                  rintro e w4 ⟨rfl, e4⟩
                  rw [e4]
                  clear e4 w4
                  have HR3 := hide (HR.out.below b3)
                  clear b3
                  have d1 := (HR3.out.blk.cell 2).trans (show _ = some (.int .i64 st.B) from rfl)
                  have f1 := HR3.out.blk.frozen 2
                  have HN := hide (ps_set HR3.out HFF.out HY.out HS.out 2 (.int .i64 (modeI y)) (putF_B st m 109 (modeI y, []) (by decide) hm0) rfl rfl)
                  rw [nnF_num _ _ (by decide)] at HN
                  clear hok
                  go_wp2_with fail
                  go_roundw
                  case rel => exact ⟨k + 1, m + 1, _, _, by omega, by omega, by go_num, by go_num, HN⟩
                  case measure => simp [intOf]; omega
            have HTX := hide (say_text e110 e109 y)
            cases ht : textR y with
            | none =>
              have hz : ((f.toNat : Int) == 110) = false ∧ ((f.toNat : Int) == 109) = false := not2 e110 e109
              obtain ⟨hz1, hz2⟩ := hz
              have hix := form_ix F k f HFF.out
              have HS := hide (show sayF f y = .error 28 from by rw [HTX.out, ht])
              have HP := hide (show parseL s.data.toList = .error 28 from by rw [HPR.out, ps_bad HR.out HFF.out HY.out HS.out]; rfl)
              have HV := hide (textV_no ht)
              clear ht e110 e109
              go_wp2_with (go_at_call 13; fail)
              refine (text_any (mk y) wr hys).mono ?_
              rw [hyd, HV.out]
              rintro e w3 ⟨rfl, b3⟩
              have HB3 := hide (HBr.out.below b3 HBr.out.lt)
              have HBL3 := hide (HBLr.out.trans (b3.mono HBLr.out.size))
              clear b3
              go_wp2_with (refine wpList_store_row rfl 24 _ _ rfl w.heap.size noOp rfl rfl 24 _ HB3.out infoO8 rfl noOp_one ?_)
              exact bodyPost_ret (v := .tuple #[.agg noOp, .int .i64 28]) (results_row_tmp rfl _ _ w.heap.size 24 noOp (0, 0) _ _ rfl rfl (HB3.out.row noOp) Tryz.underlying24 rfl infoO8) rfl ⟨.slice none 0 0, by rw [HP.out]; rfl, by rw [HP.out]; exact rd_none _, below_setRowP HBL3.out (Nat.le_refl _) _⟩
            | some t =>
              have HS := hide (show sayF f y = .ok (0, t) from by rw [HTX.out, ht])
              have htl := textR_len ht
              have htm : t.length ≤ maxLen := by rw [mk_size] at hys; unfold maxLen; omega
              have HV := hide (textV_yes ht)
              clear ht
              by_cases e112 : f = 112
              · subst e112
                have hix : ∀ Wx, (Instr.index 9 (.string (mk F)) (.int .i64 (k : Int))).run Tryz.prog Wx = .ok (.int .u8 112) Wx := form_ix F k 112 HFF.out
                clear e110 e109
                go_wp2_with (go_at_call 13; fail)
                refine (text_any (mk y) wr hys).mono ?_
                rw [hyd, HV.out]
                rintro e w3 ⟨rfl, b3⟩
                have HR3 := hide (HR.out.below b3)
                clear b3
                have d1 := (HR3.out.blk.cell 5).trans (show _ = some (.string (mk st.p)) from rfl)
                have f1 := HR3.out.blk.frozen 5
                have HN := hide (ps_set HR3.out HFF.out HY.out HS.out 5 (.string (mk t)) (putF_p st m (0, t)) rfl rfl)
                rw [nnF_txt _ _ (by decide) (by decide)] at HN
                go_wp2_with fail
                go_roundw
                case rel => exact ⟨k + 1, m, _, _, by omega, by omega, rfl, by go_num, HN⟩
                case measure => simp [intOf]; omega
              by_cases e113 : f = 113
              · subst e113
                have hix : ∀ Wx, (Instr.index 9 (.string (mk F)) (.int .i64 (k : Int))).run Tryz.prog Wx = .ok (.int .u8 113) Wx := form_ix F k 113 HFF.out
                clear e110 e109 e112
                go_wp2_with (go_at_call 13; fail)
                refine (text_any (mk y) wr hys).mono ?_
                rw [hyd, HV.out]
                rintro e w3 ⟨rfl, b3⟩
                have HR3 := hide (HR.out.below b3)
                clear b3
                have d1 := (HR3.out.blk.cell 6).trans (show _ = some (.string (mk st.q)) from rfl)
                have f1 := HR3.out.blk.frozen 6
                have HN := hide (ps_set HR3.out HFF.out HY.out HS.out 6 (.string (mk t)) (putF_q st m (0, t)) rfl rfl)
                rw [nnF_txt _ _ (by decide) (by decide)] at HN
                go_wp2_with fail
                go_roundw
                case rel => exact ⟨k + 1, m, _, _, by omega, by omega, rfl, by go_num, HN⟩
                case measure => simp [intOf]; omega
              obtain ⟨hz1, hz2⟩ : ((f.toNat : Int) == 110) = false ∧ ((f.toNat : Int) == 109) = false := not2 e110 e109
              obtain ⟨hz3, hz4⟩ : ((f.toNat : Int) == 112) = false ∧ ((f.toNat : Int) == 113) = false := not3 e112 e113
              have hix := form_ix F k f HFF.out
              have HPD := hide (putF_d st m f (0, t) e110 e109 e112 e113)
              have HNF := hide (nnF_txt m f e110 e109)
              clear e110 e109 e112 e113
              go_wp2_with (go_at_call 13; fail)
              refine (text_any (mk y) wr hys).mono ?_
              rw [hyd, HV.out]
              rintro e w3 ⟨rfl, b3⟩
              have HR3 := hide (HR.out.below b3)
              have hcv := Lib.run_convert_string_bytes (P := Tryz.prog) w3 9 22 5 (mk t) (u := .string) Tryz.underlying9 Tryz.underlying22 Tryz.underlying5
              have HD := hide (DvI.bytes w3 w2.heap.size t HR3.out.blk.lt htm)
              have HBW := hide (Go.Lib.bytesWorld_below w3 5 (mk t))
              generalize Go.Lib.bytesWorld w3 5 (mk t) = W4 at hcv HD HBW
              generalize grownCap w3 (mk t).size 0 5 = gc at hcv HD
              have HB4 := hide (HR3.out.blk.below HBW.out HR3.out.blk.lt)
              have d7 := (HB4.out.cell 7).trans (show _ = some (.slice da dn dc) from rfl)
              have f7 := HB4.out.frozen 7
              have HN := hide (ps_data HR3.out HFF.out HY.out HS.out HBW.out HD.out HPD.out)
              rw [HNF.out] at HN
              clear b3
              go_wp2_with fail
              go_roundw
              case rel => exact ⟨k + 1, m, _, _, by omega, by omega, rfl, by go_num, HN⟩
              case measure => simp [intOf]; omega
          · have HE := hide (show parseL s.data.toList = .ok (k0 + 1, st) from by rw [HPR.out, ps_end HR.out (by rw [← HNN.out.2]; omega)]; rfl)
            have hnl : ¬ (k : Int) < ((mk F).size : Int) := by rw [hmF]; omega
            generalize hCC : opC ((k0 : Int) + 1) st.A st.B 0 0 (mk st.p) (mk st.q) (.slice da dn dc) = CC
            have HCC := hide hCC
            have HK := hide (show Blk wr w2.heap.size CC 24 from by rw [← hCC]; exact HR.out.blk)
            have HC8 := hide (show CC.size = 8 from by rw [← hCC]; rfl)
            have HC1 := hide (show CC.all (·.oneCell') = true from by rw [← hCC]; exact opC_one _ _ _ _ _ _ _ _ _ _)
            have HD := hide (show Rd .u8 (wr.setRow w.heap.size CC) (.slice da dn dc) (st.d.map fun c => (c.toNat : Int)) from (HR.out.dat.keep (w' := wr.setRow w.heap.size CC) (by simp [World.setRow]) (fun q hq _ => setRow_block wr w.heap.size CC q (by have := HB2.out.lt; omega))).rd)
            clear hCC
            go_wp2_with (first | (refine wpList_load_row rfl 24 _ rfl w2.heap.size rfl 24 CC (0, 0) _ HK.out Tryz.underlying24 rfl (by rw [HC8.out]; exact infoO8) ?_) | (refine wpList_store_row rfl 24 _ _ rfl w.heap.size CC rfl rfl 24 _ HBr.out (by rw [HC8.out]; exact infoO8) (by rw [HC8.out]; rfl) HC1.out ?_))
            exact bodyPost_ret (v := .tuple #[.agg CC, .int .i64 0]) (results_row_tmp rfl _ _ w.heap.size 24 CC (0, 0) _ _ rfl rfl (HBr.out.row _) Tryz.underlying24 rfl (by rw [HC8.out]; exact infoO8)) rfl ⟨.slice da dn dc, by rw [HE.out, ← HCC.out]; rfl, by rw [HE.out]; exact HD.out, below_setRowP HBLr.out (Nat.le_refl _) _⟩
      · have hne2 : ¬ (n : Int) - 1 = ((mk F).size : Int) := by rw [mk_size]; have := HN1.out; omega
        have HP := hide (parse_args HNL.out HWS.out HC.out (by rw [← HF.out]; exact hne))
        go_wp2_with (refine wpList_store_row rfl 24 _ _ rfl w.heap.size noOp rfl rfl 24 _ HB2.out infoO8 rfl noOp_one ?_)
        exact bodyPost_ret (v := .tuple #[.agg noOp, .int .i64 26]) (results_row_tmp rfl _ _ w.heap.size 24 noOp (0, 0) _ _ rfl rfl (HB2.out.row noOp) Tryz.underlying24 rfl infoO8) rfl ⟨.slice none 0 0, by rw [HP.out]; rfl, by rw [HP.out]; exact rd_none _, below_setRowP HBL2.out (Nat.le_refl _) _⟩
end Go.Proofs.YtnljpaohkkdjjaaGreatDoor
