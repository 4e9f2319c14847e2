/- The model's ChooseFsinfo. -/
import Derived.Test.YtfkmnmopkblopaaGreatDoorZs39
namespace Go.Proofs.YtfkmnmopkblopaaGreatDoor
set_option linter.unusedVariables false
set_option linter.unusedSimpArgs false
open Go.RowKit

/-- The record chosen so far. -/
def recZ (zs : List Int) (st : Option Nat) : List Int := match st with | none => noFs | some s => decFs (blkZ zs s)
def slotZ (st : Option Nat) : Int := match st with | none => 0 | some s => (s : Int)
def foundZ (st : Option Nat) : Bool := match st with | none => false | some _ => true
theorem recZ_len (zs : List Int) (st : Option Nat) : (recZ zs st).length = 68 := by
  cases st with
  | none => rfl
  | some s => exact decFs_len _

set_option maxRecDepth 100000 in
set_option maxHeartbeats 4000000 in
theorem specCh_any (v : Value) (zs : List Int) (w : World) (h : Rd .u8 w v zs) (hbd : ∀ z ∈ zs, 0 ≤ z ∧ z < 256) (hz : zs.length ≤ 140737488355328) :
    Calls Tryz.prog 12 #[v] w fun e w' => e = .returned (.tuple #[.agg (cellsI (choR zs)), .int .i64 (choS zs), .int .i64 (choC zs)]) ∧ Below w.heap.size w w' := by
  obtain ⟨W, hW⟩ : ∃ W, W = w.alloc (.cells Tryz.zeroCells37 37) := ⟨_, rfl⟩
  have KW := hide (show Blk W w.heap.size (cellsI noFs) 37 ∧ Below w.heap.size w W from by rw [hW]; exact ⟨Blk.new _ _ _, (Below.refl _ _).alloc (Nat.le_refl _) _⟩)
  have hWs : w.heap.size < W.heap.size := KW.out.1.lt
  have HW9 := hide hW
  have HR := hide (h.below KW.out.2)
  have HR0 := hide (fun (w' : World) (hb : Below w.heap.size w w') => h.below hb)
  have HB := hide hbd
  obtain ⟨a, cap, rfl⟩ : ∃ a cap, v = .slice a zs.length cap := by obtain ⟨a, cap, h1, _⟩ := h; exact ⟨a, cap, h1⟩
  clear h hbd hW
  go_enter Tryz.func12, Tryz.ntmps12
  go_wp2_with (go_at_call 21; fail)
  rw [← HW9.out]
  refine (blocks_any _ zs _ HR.out hz).mono ?_
  rintro e w1 ⟨rfl, rfl⟩
  cases hs : szOk zs.length with
  | false =>
    have HA := hide (show choR zs = noFs ∧ choS zs = 0 ∧ choC zs = 7 from by unfold choR choS choC; rw [hs]; exact ⟨rfl, rfl, rfl⟩)
    rw [if_neg (by decide)]
    clear hs
    go_wp2_with (refine wpList_store_row rfl 37 _ _ rfl w.heap.size (cellsI noFs) rfl rfl 37 _ KW.out.1 info68 rfl (cellsI_one _) ?_)
    refine bodyPost_ret (v := .tuple #[.agg (cellsI noFs), .int .i64 0, .int .i64 7]) ?_ rfl ⟨by rw [HA.out.1, HA.out.2.1, HA.out.2.2], below_setRow KW.out.2 (Nat.le_refl _) _⟩
    exact results_rtt rfl _ _ w.heap.size 37 (cellsI noFs) (0, 0) _ _ _ rfl rfl rfl (KW.out.1.row _) Tryz.underlying37 rfl info68
  | true =>
    have hlen := szOk_len hs
    have HS := hide hs
    rw [if_pos rfl]
    clear hs
    obtain ⟨n, hn⟩ : ∃ n : Nat, n = zs.length / 512 := ⟨_, rfl⟩
    rw [← hn]
    have hn0 : ((n : Int) == 0) = false := by simp; omega
    have HN := hide hn
    clear hn
    obtain ⟨W2, hW2⟩ : ∃ W2, W2 = (W.alloc (.cells Tryz.zeroCells37 37)).setRow W.heap.size (cellsI noFs) := ⟨_, rfl⟩
    have K2 := hide (show Blk W2 W.heap.size (cellsI noFs) 37 ∧ Blk W2 w.heap.size (cellsI noFs) 37 ∧ Below w.heap.size w W2 from by
      rw [hW2]
      exact ⟨(Blk.new W Tryz.zeroCells37 37).row _, (setRow_block _ _ _ _ (by omega)).trans (KW.out.1.alloc _), below_setRow (KW.out.2.alloc (Nat.le_of_lt hWs) _) (Nat.le_of_lt hWs) _⟩)
    have HW2 := hide hW2
    clear hW2
    go_wp2_with (refine wpList_store_row rfl 37 _ _ rfl W.heap.size (cellsI noFs) rfl rfl 37 _ (Blk.new W Tryz.zeroCells37 37) info68 rfl (cellsI_one _) ?_; rw [← HW2.out])
    obtain ⟨gb, hgb⟩ : ∃ gb, gb = W.heap.size := ⟨_, rfl⟩
    rw [← hgb] at K2 hWs ⊢
    clear hgb
    go_loopw [7, 8, 9] (fun sl fo i wr => ∃ k : Nat, k ≤ 2 ∧ i = .int .i64 k ∧ sl = .int .i64 (slotZ (chz zs k)) ∧ fo = .bool (foundZ (chz zs k)) ∧ Blk wr gb (cellsI (recZ zs (chz zs k))) 37 ∧ Blk wr w.heap.size (cellsI noFs) 37 ∧ Below w.heap.size w wr) (fun _ _ i _ => 2 - (intOf i).toNat)
    case atStart => exact ⟨0, by omega, rfl, rfl, rfl, K2.out.1, K2.out.2.1, K2.out.2.2⟩
    case round =>
      clear K2
      obtain ⟨k, hk, rfl, rfl, rfl, hb1, hb2, hb⟩ := hrel
      have HK := hide (And.intro hb1 (And.intro hb2 hb))
      clear hb1 hb2 hb
      by_cases hlt : k < 2
      · have HRk := hide (show Rd .u8 wr (.slice a zs.length cap) zs from HR0.out wr HK.out.2.2)
        go_wp2_with (go_at_call 14; fail)
        refine (l09At_any _ zs k _ HRk.out (by omega) hz).mono ?_
        rintro e w2 ⟨sv, rfl, hsv, rfl⟩
        have HSv := hide hsv
        clear hsv
        go_wp2_with (go_at_call 22; fail)
        refine (specDFs_any _ (blkZ zs k) _ HSv.out (blkZ_bd HB.out k)).mono ?_
        rintro e w3 ⟨rfl, b3⟩
        have hgl := HK.out.1.lt
        have hgl2 := HK.out.2.1.lt
        have hs3 := b3.size
        have HD := hide (decFs_len (blkZ zs k))
        have HTk := hide (show takeZ zs (chz zs k) k = (goodZ zs k && (match chz zs k with | none => true | some s => decide (genZ zs s < genZ zs k))) from rfl)
        have HGd := hide (show goodZ zs k = (decide (codeDF (blkZ zs k) = 0) && decide (blZ zs k = (n : Int))) from by rw [HN.out]; rfl)
        have HNx := hide (show chz zs (k + 1) = if takeZ zs (chz zs k) k = true then some k else chz zs k from rfl)
        have HBl := hide (show (decFs (blkZ zs k)).getD 1 0 = blZ zs k from rfl)
        have HGn := hide (show (decFs (blkZ zs k)).getD 0 0 = genZ zs k from rfl)
        have HRz := hide (show recZ zs (some k) = decFs (blkZ zs k) from rfl)
        have K3 := hide (show Blk w3 gb (cellsI (recZ zs (chz zs k))) 37 ∧ Blk w3 w.heap.size (cellsI noFs) 37 ∧ Below w.heap.size w w3 from ⟨HK.out.1.below b3 hgl, HK.out.2.1.below b3 hgl2, HK.out.2.2.trans (b3.mono HK.out.2.2.size)⟩)
        clear b3 HSv HRk HK
        obtain ⟨cd, hcd⟩ : ∃ cd, cd = codeDF (blkZ zs k) := ⟨_, rfl⟩
        rw [← hcd] at HGd ⊢
        clear hcd
        obtain ⟨X, hX⟩ : ∃ X, X = decFs (blkZ zs k) := ⟨_, rfl⟩
        rw [← hX] at HD HBl HGn HRz ⊢
        clear hX
        obtain ⟨st, hst⟩ : ∃ st, st = chz zs k := ⟨_, rfl⟩
        rw [← hst] at K3 HTk HNx ⊢
        clear hst
        obtain ⟨bl, hbl⟩ : ∃ bl, bl = blZ zs k := ⟨_, rfl⟩
        rw [← hbl] at HBl HGd
        obtain ⟨gn, hgn⟩ : ∃ gn, gn = genZ zs k := ⟨_, rfl⟩
        rw [← hgn] at HGn HTk
        clear hbl hgn
        have HZ := hide (show (cellsI X).size = 68 from by rw [cellsI_size]; exact HD.out)
        obtain ⟨Y, hY⟩ : ∃ Y, Y = recZ zs st := ⟨_, rfl⟩
        have HYZ := hide (show (cellsI Y).size = 68 from by rw [hY, cellsI_size]; exact recZ_len _ _)
        obtain ⟨gs, hgs⟩ : ∃ gs, gs = Y.getD 0 0 := ⟨_, rfl⟩
        have HTs := hide (show ∀ s, st = some s → genZ zs s = gs from fun s e => by rw [hgs, hY, e]; rfl)
        have HYst := hide hY
        rw [← hY] at K3
        have hYl : Y.length = 68 := by rw [hY]; exact recZ_len _ _
        clear hY
        obtain ⟨w4, hw4⟩ : ∃ w4, w4 = (w3.alloc (.cells Tryz.zeroCells37 37)).setRow w3.heap.size (cellsI X) := ⟨_, rfl⟩
        have K4 := hide (show Blk w4 w3.heap.size (cellsI X) 37 ∧ Blk w4 gb (cellsI Y) 37 ∧ Blk w4 w.heap.size (cellsI noFs) 37 ∧ Below w.heap.size w w4 from by
          rw [hw4]
          have h1 := K3.out.1.lt
          have h2 := K3.out.2.1.lt
          exact ⟨(Blk.new w3 Tryz.zeroCells37 37).row _, (setRow_block _ _ _ _ (by omega)).trans (K3.out.1.alloc _), (setRow_block _ _ _ _ (by omega)).trans (K3.out.2.1.alloc _), below_setRow (K3.out.2.2.alloc K3.out.2.2.size _) K3.out.2.2.size _⟩)
        have hg3 := K3.out.1.lt
        have hg4 := K3.out.2.2.size
        have HW4 := hide hw4
        clear hw4 K3
        have c4 : w4.cell? ⟨w3.heap.size, 1, none⟩ = some (.int .i64 bl) := by rw [← HBl.out]; exact (K4.out.1.cell 1).trans (cellsI_get X 1 (by rw [HD.out]; omega))
        have d4 : w4.cell? ⟨w3.heap.size, 0, none⟩ = some (.int .i64 gn) := by rw [← HGn.out]; exact (K4.out.1.cell 0).trans (cellsI_get X 0 (by rw [HD.out]; omega))
        have d5 : w4.cell? ⟨gb, 0, none⟩ = some (.int .i64 gs) := by rw [hgs]; exact (K4.out.2.1.cell 0).trans (cellsI_get Y 0 (by omega))
        clear hgs hYl
        by_cases hcd : cd = 0
        · have hq1 : (cd == 0) = true := by simp [hcd]
          by_cases hbl : bl = (n : Int)
          · have hq2 : (bl == (n : Int)) = true := by simp [hbl]
            have HG1 := hide (show goodZ zs k = true from by rw [HGd.out, decide_eq_true hcd, decide_eq_true hbl]; rfl)
            clear hcd hbl
            cases st with
            | none =>
              have hf0 : foundZ none = false := rfl
              have HN2 := hide (show chz zs (k + 1) = some k from by rw [HNx.out, HTk.out, HG1.out]; rfl)
              clear HNx HTk HGd
              go_wp2_with (first | (refine wpList_store_row rfl 37 _ _ rfl w3.heap.size (cellsI X) rfl rfl 37 _ (Blk.new w3 Tryz.zeroCells37 37) (by rw [HZ.out]; exact info68) (by rw [HZ.out]; rfl) (cellsI_one _) ?_; rw [← HW4.out]) | (refine wpList_load_row rfl 37 _ rfl w3.heap.size rfl 37 (cellsI X) (0, 0) _ K4.out.1 Tryz.underlying37 rfl (by rw [HZ.out]; exact info68) ?_) | (refine wpList_store_row rfl 37 _ _ rfl gb (cellsI X) rfl rfl 37 _ K4.out.2.1 (by rw [HZ.out]; exact info68) (by rw [HZ.out, HYZ.out]) (cellsI_one _) ?_))
              go_roundw
              case rel => exact ⟨k + 1, by omega, by go_num, by rw [HN2.out]; rfl, by rw [HN2.out]; rfl, by rw [HN2.out, HRz.out]; exact K4.out.2.1.row _, (setRow_block _ _ _ _ (by omega)).trans K4.out.2.2.1, below_setRow K4.out.2.2.2 (by omega) _⟩
              case measure => simp [intOf]; omega
            | some s =>
              have hf0 : foundZ (some s) = true := rfl
              by_cases hgt : gs < gn
              · have hq3 : decide (gs < gn) = true := by simp [hgt]
                have HN2 := hide (show chz zs (k + 1) = some k from by rw [HNx.out, HTk.out, HG1.out]; simp only [HTs.out s rfl, hq3]; rfl)
                clear HNx HTk HGd
                go_wp2_with (first | (refine wpList_store_row rfl 37 _ _ rfl w3.heap.size (cellsI X) rfl rfl 37 _ (Blk.new w3 Tryz.zeroCells37 37) (by rw [HZ.out]; exact info68) (by rw [HZ.out]; rfl) (cellsI_one _) ?_; rw [← HW4.out]) | (refine wpList_load_row rfl 37 _ rfl w3.heap.size rfl 37 (cellsI X) (0, 0) _ K4.out.1 Tryz.underlying37 rfl (by rw [HZ.out]; exact info68) ?_) | (refine wpList_store_row rfl 37 _ _ rfl gb (cellsI X) rfl rfl 37 _ K4.out.2.1 (by rw [HZ.out]; exact info68) (by rw [HZ.out, HYZ.out]) (cellsI_one _) ?_))
                go_roundw
                case rel => exact ⟨k + 1, by omega, by go_num, by rw [HN2.out]; rfl, by rw [HN2.out]; rfl, by rw [HN2.out, HRz.out]; exact K4.out.2.1.row _, (setRow_block _ _ _ _ (by omega)).trans K4.out.2.2.1, below_setRow K4.out.2.2.2 (by omega) _⟩
                case measure => simp [intOf]; omega
              · have hq3 : decide (gs < gn) = false := by simp; omega
                have HN2 := hide (show chz zs (k + 1) = some s from by rw [HNx.out, HTk.out, HG1.out]; simp only [HTs.out s rfl, hq3]; rfl)
                clear HNx HTk HGd
                go_wp2_with (refine wpList_store_row rfl 37 _ _ rfl w3.heap.size (cellsI X) rfl rfl 37 _ (Blk.new w3 Tryz.zeroCells37 37) (by rw [HZ.out]; exact info68) (by rw [HZ.out]; rfl) (cellsI_one _) ?_; rw [← HW4.out])
                go_roundw
                case rel => exact ⟨k + 1, by omega, by go_num, (by first | (rw [HN2.out]; done) | (rw [HN2.out]; rfl)), (by first | (rw [HN2.out]; done) | (rw [HN2.out]; rfl)), (by rw [HN2.out, ← HYst.out]; exact K4.out.2.1), K4.out.2.2.1, K4.out.2.2.2⟩
                case measure => simp [intOf]; omega
          · have hq2 : (bl == (n : Int)) = false := by simp [hbl]
            have HN2 := hide (show chz zs (k + 1) = st from by rw [HNx.out, HTk.out, HGd.out, decide_eq_false hbl, Bool.and_false, Bool.false_and]; rfl)
            clear HNx HTk HGd
            go_wp2_with (refine wpList_store_row rfl 37 _ _ rfl w3.heap.size (cellsI X) rfl rfl 37 _ (Blk.new w3 Tryz.zeroCells37 37) (by rw [HZ.out]; exact info68) (by rw [HZ.out]; rfl) (cellsI_one _) ?_; rw [← HW4.out])
            go_roundw
            case rel => exact ⟨k + 1, by omega, by go_num, (by first | (rw [HN2.out]; done) | (rw [HN2.out]; rfl)), (by first | (rw [HN2.out]; done) | (rw [HN2.out]; rfl)), (by rw [HN2.out, ← HYst.out]; exact K4.out.2.1), K4.out.2.2.1, K4.out.2.2.2⟩
            case measure => simp [intOf]; omega
        · have hq1 : (cd == 0) = false := by simp [hcd]
          have HN2 := hide (show chz zs (k + 1) = st from by rw [HNx.out, HTk.out, HGd.out, decide_eq_false hcd, Bool.false_and, Bool.false_and]; rfl)
          clear HNx HTk HGd
          go_wp2_with (refine wpList_store_row rfl 37 _ _ rfl w3.heap.size (cellsI X) rfl rfl 37 _ (Blk.new w3 Tryz.zeroCells37 37) (by rw [HZ.out]; exact info68) (by rw [HZ.out]; rfl) (cellsI_one _) ?_; rw [← HW4.out])
          go_roundw
          case rel => exact ⟨k + 1, by omega, by go_num, (by first | (rw [HN2.out]; done) | (rw [HN2.out]; rfl)), (by first | (rw [HN2.out]; done) | (rw [HN2.out]; rfl)), (by rw [HN2.out, ← HYst.out]; exact K4.out.2.1), K4.out.2.2.1, K4.out.2.2.2⟩
          case measure => simp [intOf]; omega
      · have hk2 : k = 2 := by omega
        subst hk2
        have HS2 := HS
        cases hst : chz zs 2 with
        | none =>
          have HA := hide (show choR zs = noFs ∧ choS zs = 0 ∧ choC zs = 21 from by unfold choR choS choC; rw [HS2.out, hst]; exact ⟨rfl, rfl, rfl⟩)
          have hf0 : foundZ none = false := rfl
          clear hst
          go_wp2_with (refine wpList_store_row rfl 37 _ _ rfl w.heap.size (cellsI noFs) rfl rfl 37 _ HK.out.2.1 info68 rfl (cellsI_one _) ?_)
          refine bodyPost_ret (v := .tuple #[.agg (cellsI noFs), .int .i64 0, .int .i64 21]) ?_ rfl ⟨by rw [HA.out.1, HA.out.2.1, HA.out.2.2], below_setRow HK.out.2.2 (Nat.le_refl _) _⟩
          exact results_rtt rfl _ _ w.heap.size 37 (cellsI noFs) (0, 0) _ _ _ rfl rfl rfl (HK.out.2.1.row _) Tryz.underlying37 rfl info68
        | some s =>
          have HA := hide (show choR zs = decFs (blkZ zs s) ∧ choS zs = (s : Int) ∧ choC zs = 0 from by unfold choR choS choC; rw [HS2.out, hst]; exact ⟨rfl, rfl, rfl⟩)
          have hf0 : foundZ (some s) = true := rfl
          have hs0 : slotZ (some s) = (s : Int) := rfl
          have KB := hide (show Blk wr gb (cellsI (decFs (blkZ zs s))) 37 from by have h1 := HK.out.1; rw [hst] at h1; exact h1)
          have HZ := hide (show (cellsI (decFs (blkZ zs s))).size = 68 from by rw [cellsI_size]; exact decFs_len _)
          clear hst
          go_wp2_with (first | (refine wpList_load_row rfl 37 _ rfl gb rfl 37 (cellsI (decFs (blkZ zs s))) (0, 0) _ KB.out Tryz.underlying37 rfl (by rw [HZ.out]; exact info68) ?_) | (refine wpList_store_row rfl 37 _ _ rfl w.heap.size (cellsI (decFs (blkZ zs s))) rfl rfl 37 _ HK.out.2.1 (by rw [HZ.out]; exact info68) (by rw [HZ.out]; rfl) (cellsI_one _) ?_))
          refine bodyPost_ret (v := .tuple #[.agg (cellsI (decFs (blkZ zs s))), .int .i64 (s : Int), .int .i64 0]) ?_ rfl ⟨by rw [HA.out.1, HA.out.2.1, HA.out.2.2], below_setRow HK.out.2.2 (Nat.le_refl _) _⟩
          exact results_rtt rfl _ _ w.heap.size 37 (cellsI (decFs (blkZ zs s))) (0, 0) _ _ _ rfl rfl rfl (HK.out.2.1.row _) Tryz.underlying37 rfl (by rw [HZ.out]; exact info68)
end Go.Proofs.YtfkmnmopkblopaaGreatDoor
