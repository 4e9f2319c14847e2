/- MapWords: both sides are one. The model's ChooseFsinfo. The model's MapWords. -/
import Derived.Test.YtkbbnflblkkepaaGreatDoorZm46
import Derived.Deep.MidRow
namespace Go.Proofs.YtkbbnflblkkepaaGreatDoor
set_option linter.unusedVariables false
set_option linter.unusedSimpArgs false
open Go.RowKit

theorem chz_goodM (zs : List Int) : ∀ k s, chz zs k = some s → goodZ zs s = true
  | 0, _, h => by cases h
  | k + 1, s, h => by
    rw [chz] at h
    split at h
    · rename_i ht
      obtain rfl := Option.some.inj h
      unfold takeZ at ht
      exact (Bool.and_eq_true_iff.1 ht).1
    · exact chz_goodM zs k s h
theorem mwM_same {zs : List Int} {s : Int} {ds : List Int} {p q : Int} (hd : ds.length = 12) : mwM zs s ds p q = mwW zs s ds p q := by
  unfold mwM mwW
  rw [trB_same hd]
theorem rootI_injM {s s' p p' q q' : Int} {ds ds' : List Int} (h1 : ds.length = 12) (h2 : ds'.length = 12) (h : rootI s ds p q = rootI s' ds' p' q') : s = s' ∧ ds = ds' ∧ p = p' ∧ q = q' := by
  unfold rootI at h
  injection h with a b
  obtain ⟨c, d⟩ := List.append_inj b (h1.trans h2.symm)
  injection d with e f
  injection f with f g
  exact ⟨a, c, e, f⟩
/-- The map of a chosen record is a right root. -/
theorem mapT_two (zs : List Int) (h : choC zs = 0) : mapT zs = 0 ∨ mapT zs = 21 := by
  have hs : szOk zs.length = true := by
    cases hs : szOk zs.length with
    | true => rfl
    | false => unfold choC at h; rw [hs] at h; simp at h
  obtain ⟨s, hc⟩ : ∃ s, chz zs 2 = some s := by
    cases hc : chz zs 2 with
    | some s => exact ⟨s, rfl⟩
    | none => unfold choC at h; rw [hs, hc] at h; simp at h
  have hg := chz_goodM zs 2 s hc
  unfold goodZ at hg
  rw [Bool.and_eq_true, decide_eq_true_eq, decide_eq_true_eq] at hg
  obtain ⟨g1, g2⟩ := hg
  have hok : okFs (blkZ zs s) = true := by
    unfold codeDF at g1
    split at g1
    · assumption
    · omega
  have hR : choR zs = decFs (blkZ zs s) := by unfold choR; rw [hs, hc]; rfl
  have hr : okR zs ((choR zs).getD 22 0) (((choR zs).drop 23).take 12) ((choR zs).getD 35 0) ((choR zs).getD 36 0) = true := by
    unfold okR
    rw [hs, Bool.true_and, hR]
    have hl := decFs_len (blkZ zs s)
    have e1 := root_mapM _ hl
    have hd : (((decFs (blkZ zs s)).drop 23).take 12).length = 12 := by simp [hl]
    rw [show decFs (blkZ zs s) = _ from by unfold decFs; rw [if_pos hok]] at e1 hd ⊢
    rw [fs_cut2 _ _ _ _ _ _ _ _ _ _ _ _ _ _ _ _ (gwords_len _ _) (gwords_len _ _)] at e1
    obtain ⟨a, b, c, d⟩ := rootI_injM hd (gwords_len _ _) e1
    rw [a, b, c, d]
    unfold okFs rightF at hok
    simp only [Bool.and_eq_true] at hok
    exact hok.2.1.1.1.1.2
  unfold mapT trC
  rw [if_neg (by rw [hr]; simp)]
  split
  · exact .inr rfl
  · exact .inl rfl
end Go.Proofs.YtkbbnflblkkepaaGreatDoor

namespace Go.Proofs.YtkbbnflblkkepaaGreatDoor
set_option linter.unusedVariables false
set_option linter.unusedSimpArgs false
open Go.RowKit

/-- The record chosen so far. -/
def recZ (zs : List Int) (st : Option Nat) : List Int := match st with | none => noFs | some s => decFs (blkZ zs s)
def slotZ (st : Option Nat) : Int := match st with | none => 0 | some s => (s : Int)
def foundZ (st : Option Nat) : Bool := match st with | none => false | some _ => true
theorem recZ_len (zs : List Int) (st : Option Nat) : (recZ zs st).length = 68 := by
  cases st with
  | none => rfl
  | some s => exact decFs_len _

set_option maxRecDepth 100000 in
set_option maxHeartbeats 4000000 in
theorem specCh_any (v : Value) (zs : List Int) (w : World) (h : Rd .u8 w v zs) (hbd : ∀ z ∈ zs, 0 ≤ z ∧ z < 256) (hz : zs.length ≤ 140737488355328) :
    Calls Tryz.prog 12 #[v] w fun e w' => e = .returned (.tuple #[.agg (cellsI (choR zs)), .int .i64 (choS zs), .int .i64 (choC zs)]) ∧ Below w.heap.size w w' := by
  obtain ⟨W, hW⟩ : ∃ W, W = w.alloc (.cells Tryz.zeroCells37 37) := ⟨_, rfl⟩
  have KW := hide (show Blk W w.heap.size (cellsI noFs) 37 ∧ Below w.heap.size w W from by rw [hW]; exact ⟨Blk.new _ _ _, (Below.refl _ _).alloc (Nat.le_refl _) _⟩)
  have hWs : w.heap.size < W.heap.size := KW.out.1.lt
  have HW9 := hide hW
  have HR := hide (h.below KW.out.2)
  have HR0 := hide (fun (w' : World) (hb : Below w.heap.size w w') => h.below hb)
  have HB := hide hbd
  obtain ⟨a, cap, rfl⟩ : ∃ a cap, v = .slice a zs.length cap := by obtain ⟨a, cap, h1, _⟩ := h; exact ⟨a, cap, h1⟩
  clear h hbd hW
  go_enter Tryz.func12, Tryz.ntmps12
  go_wp2_with (go_at_call 18; fail)
  rw [← HW9.out]
  refine (blocks_any _ zs _ HR.out hz).mono ?_
  rintro e w1 ⟨rfl, rfl⟩
  cases hs : szOk zs.length with
  | false =>
    have HA := hide (show choR zs = noFs ∧ choS zs = 0 ∧ choC zs = 7 from by unfold choR choS choC; rw [hs]; exact ⟨rfl, rfl, rfl⟩)
    rw [if_neg (by decide)]
    clear hs
    go_wp2_with (refine wpList_store_row rfl 37 _ _ rfl w.heap.size (cellsI noFs) rfl rfl 37 _ KW.out.1 info68 rfl (cellsI_one _) ?_)
    refine bodyPost_ret (v := .tuple #[.agg (cellsI noFs), .int .i64 0, .int .i64 7]) ?_ rfl ⟨by rw [HA.out.1, HA.out.2.1, HA.out.2.2], below_setRow KW.out.2 (Nat.le_refl _) _⟩
    exact results_rtt rfl _ _ w.heap.size 37 (cellsI noFs) (0, 0) _ _ _ rfl rfl rfl (KW.out.1.row _) Tryz.underlying37 rfl info68
  | true =>
    have hlen := szOk_len hs
    have HS := hide hs
    rw [if_pos rfl]
    clear hs
    obtain ⟨n, hn⟩ : ∃ n : Nat, n = zs.length / 512 := ⟨_, rfl⟩
    rw [← hn]
    have hn0 : ((n : Int) == 0) = false := by simp; omega
    have HN := hide hn
    clear hn
    obtain ⟨W2, hW2⟩ : ∃ W2, W2 = (W.alloc (.cells Tryz.zeroCells37 37)).setRow W.heap.size (cellsI noFs) := ⟨_, rfl⟩
    have K2 := hide (show Blk W2 W.heap.size (cellsI noFs) 37 ∧ Blk W2 w.heap.size (cellsI noFs) 37 ∧ Below w.heap.size w W2 from by
      rw [hW2]
      exact ⟨(Blk.new W Tryz.zeroCells37 37).row _, (setRow_block _ _ _ _ (by omega)).trans (KW.out.1.alloc _), below_setRow (KW.out.2.alloc (Nat.le_of_lt hWs) _) (Nat.le_of_lt hWs) _⟩)
    have HW2 := hide hW2
    clear hW2
    go_wp2_with (refine wpList_store_row rfl 37 _ _ rfl W.heap.size (cellsI noFs) rfl rfl 37 _ (Blk.new W Tryz.zeroCells37 37) info68 rfl (cellsI_one _) ?_; rw [← HW2.out])
    obtain ⟨gb, hgb⟩ : ∃ gb, gb = W.heap.size := ⟨_, rfl⟩
    rw [← hgb] at K2 hWs ⊢
    clear hgb
    go_loopw [7, 8, 9] (fun sl fo i wr => ∃ k : Nat, k ≤ 2 ∧ i = .int .i64 k ∧ sl = .int .i64 (slotZ (chz zs k)) ∧ fo = .bool (foundZ (chz zs k)) ∧ Blk wr gb (cellsI (recZ zs (chz zs k))) 37 ∧ Blk wr w.heap.size (cellsI noFs) 37 ∧ Below w.heap.size w wr) (fun _ _ i _ => 2 - (intOf i).toNat)
    case atStart => exact ⟨0, by omega, rfl, rfl, rfl, K2.out.1, K2.out.2.1, K2.out.2.2⟩
    case round =>
      clear K2
      obtain ⟨k, hk, rfl, rfl, rfl, hb1, hb2, hb⟩ := hrel
      have HK := hide (And.intro hb1 (And.intro hb2 hb))
      clear hb1 hb2 hb
      by_cases hlt : k < 2
      · have HRk := hide (show Rd .u8 wr (.slice a zs.length cap) zs from HR0.out wr HK.out.2.2)
        go_wp2_with (go_at_call 20; fail)
        refine (l09At_any _ zs k _ HRk.out (by omega) hz).mono ?_
        rintro e w2 ⟨sv, rfl, hsv, rfl⟩
        have HSv := hide hsv
        clear hsv
        go_wp2_with (go_at_call 19; fail)
        refine (specDFs_any _ (blkZ zs k) _ HSv.out (blkZ_bd HB.out k)).mono ?_
        rintro e w3 ⟨rfl, b3⟩
        have hgl := HK.out.1.lt
        have hgl2 := HK.out.2.1.lt
        have hs3 := b3.size
        have HD := hide (decFs_len (blkZ zs k))
        have HTk := hide (show takeZ zs (chz zs k) k = (goodZ zs k && (match chz zs k with | none => true | some s => decide (genZ zs s < genZ zs k))) from rfl)
        have HGd := hide (show goodZ zs k = (decide (codeDF (blkZ zs k) = 0) && decide (blZ zs k = (n : Int))) from by rw [HN.out]; rfl)
        have HNx := hide (show chz zs (k + 1) = if takeZ zs (chz zs k) k = true then some k else chz zs k from rfl)
        have HBl := hide (show (decFs (blkZ zs k)).getD 1 0 = blZ zs k from rfl)
        have HGn := hide (show (decFs (blkZ zs k)).getD 0 0 = genZ zs k from rfl)
        have HRz := hide (show recZ zs (some k) = decFs (blkZ zs k) from rfl)
        have K3 := hide (show Blk w3 gb (cellsI (recZ zs (chz zs k))) 37 ∧ Blk w3 w.heap.size (cellsI noFs) 37 ∧ Below w.heap.size w w3 from ⟨HK.out.1.below b3 hgl, HK.out.2.1.below b3 hgl2, HK.out.2.2.trans (b3.mono HK.out.2.2.size)⟩)
        clear b3 HSv HRk HK
        obtain ⟨cd, hcd⟩ : ∃ cd, cd = codeDF (blkZ zs k) := ⟨_, rfl⟩
        rw [← hcd] at HGd ⊢
        clear hcd
        obtain ⟨X, hX⟩ : ∃ X, X = decFs (blkZ zs k) := ⟨_, rfl⟩
        rw [← hX] at HD HBl HGn HRz ⊢
        clear hX
        obtain ⟨st, hst⟩ : ∃ st, st = chz zs k := ⟨_, rfl⟩
        rw [← hst] at K3 HTk HNx ⊢
        clear hst
        obtain ⟨bl, hbl⟩ : ∃ bl, bl = blZ zs k := ⟨_, rfl⟩
        rw [← hbl] at HBl HGd
        obtain ⟨gn, hgn⟩ : ∃ gn, gn = genZ zs k := ⟨_, rfl⟩
        rw [← hgn] at HGn HTk
        clear hbl hgn
        have HZ := hide (show (cellsI X).size = 68 from by rw [cellsI_size]; exact HD.out)
        obtain ⟨Y, hY⟩ : ∃ Y, Y = recZ zs st := ⟨_, rfl⟩
        have HYZ := hide (show (cellsI Y).size = 68 from by rw [hY, cellsI_size]; exact recZ_len _ _)
        obtain ⟨gs, hgs⟩ : ∃ gs, gs = Y.getD 0 0 := ⟨_, rfl⟩
        have HTs := hide (show ∀ s, st = some s → genZ zs s = gs from fun s e => by rw [hgs, hY, e]; rfl)
        have HYst := hide hY
        rw [← hY] at K3
        have hYl : Y.length = 68 := by rw [hY]; exact recZ_len _ _
        clear hY
        obtain ⟨w4, hw4⟩ : ∃ w4, w4 = (w3.alloc (.cells Tryz.zeroCells37 37)).setRow w3.heap.size (cellsI X) := ⟨_, rfl⟩
        have K4 := hide (show Blk w4 w3.heap.size (cellsI X) 37 ∧ Blk w4 gb (cellsI Y) 37 ∧ Blk w4 w.heap.size (cellsI noFs) 37 ∧ Below w.heap.size w w4 from by
          rw [hw4]
          have h1 := K3.out.1.lt
          have h2 := K3.out.2.1.lt
          exact ⟨(Blk.new w3 Tryz.zeroCells37 37).row _, (setRow_block _ _ _ _ (by omega)).trans (K3.out.1.alloc _), (setRow_block _ _ _ _ (by omega)).trans (K3.out.2.1.alloc _), below_setRow (K3.out.2.2.alloc K3.out.2.2.size _) K3.out.2.2.size _⟩)
        have hg3 := K3.out.1.lt
        have hg4 := K3.out.2.2.size
        have HW4 := hide hw4
        clear hw4 K3
        have c4 : w4.cell? ⟨w3.heap.size, 1, none⟩ = some (.int .i64 bl) := by rw [← HBl.out]; exact (K4.out.1.cell 1).trans (cellsI_get X 1 (by rw [HD.out]; omega))
        have d4 : w4.cell? ⟨w3.heap.size, 0, none⟩ = some (.int .i64 gn) := by rw [← HGn.out]; exact (K4.out.1.cell 0).trans (cellsI_get X 0 (by rw [HD.out]; omega))
        have d5 : w4.cell? ⟨gb, 0, none⟩ = some (.int .i64 gs) := by rw [hgs]; exact (K4.out.2.1.cell 0).trans (cellsI_get Y 0 (by omega))
        clear hgs hYl
        by_cases hcd : cd = 0
        · have hq1 : (cd == 0) = true := by simp [hcd]
          by_cases hbl : bl = (n : Int)
          · have hq2 : (bl == (n : Int)) = true := by simp [hbl]
            have HG1 := hide (show goodZ zs k = true from by rw [HGd.out, decide_eq_true hcd, decide_eq_true hbl]; rfl)
            clear hcd hbl
            cases st with
            | none =>
              have hf0 : foundZ none = false := rfl
              have HN2 := hide (show chz zs (k + 1) = some k from by rw [HNx.out, HTk.out, HG1.out]; rfl)
              clear HNx HTk HGd
              go_wp2_with (first | (refine wpList_store_row rfl 37 _ _ rfl w3.heap.size (cellsI X) rfl rfl 37 _ (Blk.new w3 Tryz.zeroCells37 37) (by rw [HZ.out]; exact info68) (by rw [HZ.out]; rfl) (cellsI_one _) ?_; rw [← HW4.out]) | (refine wpList_load_row rfl 37 _ rfl w3.heap.size rfl 37 (cellsI X) (0, 0) _ K4.out.1 Tryz.underlying37 rfl (by rw [HZ.out]; exact info68) ?_) | (refine wpList_store_row rfl 37 _ _ rfl gb (cellsI X) rfl rfl 37 _ K4.out.2.1 (by rw [HZ.out]; exact info68) (by rw [HZ.out, HYZ.out]) (cellsI_one _) ?_))
              go_roundw
              case rel => exact ⟨k + 1, by omega, by go_num, by rw [HN2.out]; rfl, by rw [HN2.out]; rfl, by rw [HN2.out, HRz.out]; exact K4.out.2.1.row _, (setRow_block _ _ _ _ (by omega)).trans K4.out.2.2.1, below_setRow K4.out.2.2.2 (by omega) _⟩
              case measure => simp [intOf]; omega
            | some s =>
              have hf0 : foundZ (some s) = true := rfl
              by_cases hgt : gs < gn
              · have hq3 : decide (gs < gn) = true := by simp [hgt]
                have HN2 := hide (show chz zs (k + 1) = some k from by rw [HNx.out, HTk.out, HG1.out]; simp only [HTs.out s rfl, hq3]; rfl)
                clear HNx HTk HGd
                go_wp2_with (first | (refine wpList_store_row rfl 37 _ _ rfl w3.heap.size (cellsI X) rfl rfl 37 _ (Blk.new w3 Tryz.zeroCells37 37) (by rw [HZ.out]; exact info68) (by rw [HZ.out]; rfl) (cellsI_one _) ?_; rw [← HW4.out]) | (refine wpList_load_row rfl 37 _ rfl w3.heap.size rfl 37 (cellsI X) (0, 0) _ K4.out.1 Tryz.underlying37 rfl (by rw [HZ.out]; exact info68) ?_) | (refine wpList_store_row rfl 37 _ _ rfl gb (cellsI X) rfl rfl 37 _ K4.out.2.1 (by rw [HZ.out]; exact info68) (by rw [HZ.out, HYZ.out]) (cellsI_one _) ?_))
                go_roundw
                case rel => exact ⟨k + 1, by omega, by go_num, by rw [HN2.out]; rfl, by rw [HN2.out]; rfl, by rw [HN2.out, HRz.out]; exact K4.out.2.1.row _, (setRow_block _ _ _ _ (by omega)).trans K4.out.2.2.1, below_setRow K4.out.2.2.2 (by omega) _⟩
                case measure => simp [intOf]; omega
              · have hq3 : decide (gs < gn) = false := by simp; omega
                have HN2 := hide (show chz zs (k + 1) = some s from by rw [HNx.out, HTk.out, HG1.out]; simp only [HTs.out s rfl, hq3]; rfl)
                clear HNx HTk HGd
                go_wp2_with (refine wpList_store_row rfl 37 _ _ rfl w3.heap.size (cellsI X) rfl rfl 37 _ (Blk.new w3 Tryz.zeroCells37 37) (by rw [HZ.out]; exact info68) (by rw [HZ.out]; rfl) (cellsI_one _) ?_; rw [← HW4.out])
                go_roundw
                case rel => exact ⟨k + 1, by omega, by go_num, (by first | (rw [HN2.out]; done) | (rw [HN2.out]; rfl)), (by first | (rw [HN2.out]; done) | (rw [HN2.out]; rfl)), (by rw [HN2.out, ← HYst.out]; exact K4.out.2.1), K4.out.2.2.1, K4.out.2.2.2⟩
                case measure => simp [intOf]; omega
          · have hq2 : (bl == (n : Int)) = false := by simp [hbl]
            have HN2 := hide (show chz zs (k + 1) = st from by rw [HNx.out, HTk.out, HGd.out, decide_eq_false hbl, Bool.and_false, Bool.false_and]; rfl)
            clear HNx HTk HGd
            go_wp2_with (refine wpList_store_row rfl 37 _ _ rfl w3.heap.size (cellsI X) rfl rfl 37 _ (Blk.new w3 Tryz.zeroCells37 37) (by rw [HZ.out]; exact info68) (by rw [HZ.out]; rfl) (cellsI_one _) ?_; rw [← HW4.out])
            go_roundw
            case rel => exact ⟨k + 1, by omega, by go_num, (by first | (rw [HN2.out]; done) | (rw [HN2.out]; rfl)), (by first | (rw [HN2.out]; done) | (rw [HN2.out]; rfl)), (by rw [HN2.out, ← HYst.out]; exact K4.out.2.1), K4.out.2.2.1, K4.out.2.2.2⟩
            case measure => simp [intOf]; omega
        · have hq1 : (cd == 0) = false := by simp [hcd]
          have HN2 := hide (show chz zs (k + 1) = st from by rw [HNx.out, HTk.out, HGd.out, decide_eq_false hcd, Bool.false_and, Bool.false_and]; rfl)
          clear HNx HTk HGd
          go_wp2_with (refine wpList_store_row rfl 37 _ _ rfl w3.heap.size (cellsI X) rfl rfl 37 _ (Blk.new w3 Tryz.zeroCells37 37) (by rw [HZ.out]; exact info68) (by rw [HZ.out]; rfl) (cellsI_one _) ?_; rw [← HW4.out])
          go_roundw
          case rel => exact ⟨k + 1, by omega, by go_num, (by first | (rw [HN2.out]; done) | (rw [HN2.out]; rfl)), (by first | (rw [HN2.out]; done) | (rw [HN2.out]; rfl)), (by rw [HN2.out, ← HYst.out]; exact K4.out.2.1), K4.out.2.2.1, K4.out.2.2.2⟩
          case measure => simp [intOf]; omega
      · have hk2 : k = 2 := by omega
        subst hk2
        have HS2 := HS
        cases hst : chz zs 2 with
        | none =>
          have HA := hide (show choR zs = noFs ∧ choS zs = 0 ∧ choC zs = 21 from by unfold choR choS choC; rw [HS2.out, hst]; exact ⟨rfl, rfl, rfl⟩)
          have hf0 : foundZ none = false := rfl
          clear hst
          go_wp2_with (refine wpList_store_row rfl 37 _ _ rfl w.heap.size (cellsI noFs) rfl rfl 37 _ HK.out.2.1 info68 rfl (cellsI_one _) ?_)
          refine bodyPost_ret (v := .tuple #[.agg (cellsI noFs), .int .i64 0, .int .i64 21]) ?_ rfl ⟨by rw [HA.out.1, HA.out.2.1, HA.out.2.2], below_setRow HK.out.2.2 (Nat.le_refl _) _⟩
          exact results_rtt rfl _ _ w.heap.size 37 (cellsI noFs) (0, 0) _ _ _ rfl rfl rfl (HK.out.2.1.row _) Tryz.underlying37 rfl info68
        | some s =>
          have HA := hide (show choR zs = decFs (blkZ zs s) ∧ choS zs = (s : Int) ∧ choC zs = 0 from by unfold choR choS choC; rw [HS2.out, hst]; exact ⟨rfl, rfl, rfl⟩)
          have hf0 : foundZ (some s) = true := rfl
          have hs0 : slotZ (some s) = (s : Int) := rfl
          have KB := hide (show Blk wr gb (cellsI (decFs (blkZ zs s))) 37 from by have h1 := HK.out.1; rw [hst] at h1; exact h1)
          have HZ := hide (show (cellsI (decFs (blkZ zs s))).size = 68 from by rw [cellsI_size]; exact decFs_len _)
          clear hst
          go_wp2_with (first | (refine wpList_load_row rfl 37 _ rfl gb rfl 37 (cellsI (decFs (blkZ zs s))) (0, 0) _ KB.out Tryz.underlying37 rfl (by rw [HZ.out]; exact info68) ?_) | (refine wpList_store_row rfl 37 _ _ rfl w.heap.size (cellsI (decFs (blkZ zs s))) rfl rfl 37 _ HK.out.2.1 (by rw [HZ.out]; exact info68) (by rw [HZ.out]; rfl) (cellsI_one _) ?_))
          refine bodyPost_ret (v := .tuple #[.agg (cellsI (decFs (blkZ zs s))), .int .i64 (s : Int), .int .i64 0]) ?_ rfl ⟨by rw [HA.out.1, HA.out.2.1, HA.out.2.2], below_setRow HK.out.2.2 (Nat.le_refl _) _⟩
          exact results_rtt rfl _ _ w.heap.size 37 (cellsI (decFs (blkZ zs s))) (0, 0) _ _ _ rfl rfl rfl (HK.out.2.1.row _) Tryz.underlying37 rfl (by rw [HZ.out]; exact info68)
end Go.Proofs.YtkbbnflblkkepaaGreatDoor

namespace Go.Proofs.YtkbbnflblkkepaaGreatDoor
set_option linter.unusedVariables false
set_option linter.unusedSimpArgs false
open Go.RowKit

set_option maxRecDepth 100000 in
set_option maxHeartbeats 2000000 in
theorem specMW_any (v : Value) (zs : List Int) (w : World) (h : Rd .u8 w v zs) (hbd : ∀ z ∈ zs, 0 ≤ z ∧ z < 256) (hz : zs.length ≤ 1048576) :
    Calls Tryz.prog 4 #[v] w fun e w' => ∃ sv, e = .returned (.tuple #[sv, .int .i64 (mapC zs)]) ∧ w'.ownsRow w.heap.size 3 1 sv (mapW zs).length ((mapW zs).map (Value.int .i64)) ∧ Below w.heap.size w w' := by
  have H := hide (And.intro h hbd)
  obtain ⟨a, cap, rfl⟩ : ∃ a cap, v = .slice a zs.length cap := by obtain ⟨a, cap, h1, _⟩ := h; exact ⟨a, cap, h1⟩
  clear h hbd
  have hF := choR_len zs
  have hd : (((choR zs).drop 23).take 12).length = 12 := by simp [hF]
  have HBo := trB_boundM zs H.out.2 ((choR zs).getD 22 0) (((choR zs).drop 23).take 12) ((choR zs).getD 35 0) ((choR zs).getD 36 0)
  rw [trB_same hd] at HBo
  have HW := hide (fun (W : World) (hW : Below w.heap.size w W) => words9_any (.slice a zs.length cap) zs _ _ _ _ W (H.out.1.below hW) hz H.out.2 hd HBo.1 HBo.2)
  have hT : mrC zs ((choR zs).getD 22 0) (((choR zs).drop 23).take 12) ((choR zs).getD 35 0) ((choR zs).getD 36 0) = mapT zs := (trC_same hd).symm
  have hL : mwM zs ((choR zs).getD 22 0) (((choR zs).drop 23).take 12) ((choR zs).getD 35 0) ((choR zs).getD 36 0) = mapL zs := mwM_same hd
  rw [hT, hL] at HW
  have HC0 := hide (show choC zs ≠ 0 → mapC zs = choC zs ∧ mapW zs = [] from fun h => by
    have e : mapC zs = choC zs := by unfold mapC; rw [if_neg h]
    refine ⟨e, ?_⟩
    unfold mapW
    rw [e, if_neg h])
  have HC1 := hide (show choC zs = 0 → (decide (mapT zs = 0) && rightM (mapL zs)) = true → mapC zs = 0 ∧ mapW zs = mapL zs ∧ mapT zs = 0 from fun h1 h2 => by
    rw [Bool.and_eq_true, decide_eq_true_eq] at h2
    have e : mapC zs = 0 := by unfold mapC; rw [if_pos h1, if_pos h2.1, if_pos h2.2]
    refine ⟨e, ?_, h2.1⟩
    unfold mapW
    rw [e, if_pos rfl])
  have HC2 := hide (show choC zs = 0 → (decide (mapT zs = 0) && rightM (mapL zs)) = false → mapC zs = 21 ∧ mapW zs = [] from fun h1 h2 => by
    have e : mapC zs = 21 := by
      unfold mapC
      rw [if_pos h1]
      rcases mapT_two zs h1 with h3 | h3
      · rw [h3, decide_eq_true rfl, Bool.true_and] at h2
        rw [if_pos h3, if_neg (by rw [h2]; simp)]
      · rw [if_neg (by omega), h3]
    refine ⟨e, ?_⟩
    unfold mapW
    rw [e]
    rfl)
  have HRg := hide (show ∀ W b, Blk W b (cellsI (choR zs)) 37 → W.rangeAt b 22 ((rootI ((choR zs).getD 22 0) (((choR zs).drop 23).take 12) ((choR zs).getD 35 0) ((choR zs).getD 36 0)).map (Value.int .i64)) from fun W b hb => by
    rw [root_mapM _ hF]
    exact hb.range 22 15 (by omega))
  have HRl := hide (rootI_len ((choR zs).getD 22 0) (((choR zs).drop 23).take 12) ((choR zs).getD 35 0) ((choR zs).getD 36 0) hd)
  have HZ := hide (show (cellsI (choR zs)).size = 68 from by rw [cellsI_size]; exact hF)
  clear hF hd HBo hT hL
  generalize rootI ((choR zs).getD 22 0) (((choR zs).drop 23).take 12) ((choR zs).getD 35 0) ((choR zs).getD 36 0) = RI at HW HRg HRl
  go_enter Tryz.func4, Tryz.ntmps4
  go_wp2_with (go_at_call 12; fail)
  refine (specCh_any _ zs _ H.out.1 H.out.2 (by omega)).mono ?_
  rintro e w1 ⟨rfl, b1⟩
  have KA := hide (show Blk (w1.alloc (.cells Tryz.zeroCells37 37)) w1.heap.size Tryz.zeroCells37 37 from Blk.new _ _ _)
  have B1 := hide b1
  clear b1
  generalize choR zs = F at HRg HZ ⊢
  generalize choS zs = sl at *
  generalize choC zs = cc at HC0 HC1 HC2 ⊢
  have K2 := hide (show Blk ((w1.alloc (.cells Tryz.zeroCells37 37)).setRow w1.heap.size (cellsI F)) w1.heap.size (cellsI F) 37 ∧ Below w.heap.size w ((w1.alloc (.cells Tryz.zeroCells37 37)).setRow w1.heap.size (cellsI F)) from ⟨KA.out.row _, below_setRow (B1.out.alloc B1.out.size _) B1.out.size _⟩)
  by_cases hcc : cc = 0
  · subst hcc
    go_wp2_with (first | (refine wpList_store_row rfl 37 _ _ rfl w1.heap.size (cellsI F) rfl rfl 37 _ KA.out (by rw [HZ.out]; exact info68) (by rw [HZ.out]; rfl) (cellsI_one _) ?_; generalize (w1.alloc (.cells Tryz.zeroCells37 37)).setRow w1.heap.size (cellsI F) = w2 at K2 ⊢) | (refine wpList_load_mid rfl 34 _ rfl w1.heap.size 22 rfl (RI.map (Value.int .i64)) _ (HRg.out _ _ K2.out.1) Tryz.underlying34 rfl (by rw [List.length_map, HRl.out]; exact info15) ?_) | (go_at_call 13; fail))
    refine (HW.out _ K2.out.2).mono ?_
    rintro e w3 ⟨v3, rfl, o3, b3⟩
    have B3 := hide (K2.out.2.trans (b3.mono K2.out.2.size))
    have O3 := hide (fun h => own_mono (o3 h) K2.out.2.size)
    clear o3 b3
    cases hok : (decide (mapT zs = 0) && rightM (mapL zs)) with
    | true =>
      have HX := hide (HC1.out (by trivial) hok)
      clear hok
      go_wp2
      go_ret2
      rw [HX.out.1, HX.out.2.1]
      exact ⟨_, rfl, O3.out HX.out.2.2, B3.out⟩
    | false =>
      have HX := hide (HC2.out (by trivial) hok)
      clear hok
      go_wp2
      go_ret2
      rw [HX.out.1, HX.out.2]
      exact ⟨_, rfl, World.ownsRow_nil _ _ _ _, B3.out⟩
  · have hq : (cc != 0) = true := by simp [hcc]
    have HX := hide (HC0.out hcc)
    clear hcc
    go_wp2_with (first | (refine wpList_store_row rfl 37 _ _ rfl w1.heap.size (cellsI F) rfl rfl 37 _ KA.out (by rw [HZ.out]; exact info68) (by rw [HZ.out]; rfl) (cellsI_one _) ?_; generalize (w1.alloc (.cells Tryz.zeroCells37 37)).setRow w1.heap.size (cellsI F) = w2 at K2 ⊢))
    go_ret2
    rw [HX.out.1, HX.out.2]
    exact ⟨_, rfl, World.ownsRow_nil _ _ _ _, K2.out.2⟩
end Go.Proofs.YtkbbnflblkkepaaGreatDoor
