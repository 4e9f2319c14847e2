/- The model reads a root: l02RootOf. Bytes that are a root, read by the program and by the model: the same. The model's DecodeRoot, and the comparison of two roots. The program tells a root: told at Inode; DecodeRoot. -/
import Derived.Test.YtkbbnflblkkepaaGreatDoorZm29
import Derived.Test.YtkbbnflblkkepaaGreatDoorZm05
import Derived.Deep.RegionHeld3
import Derived.Test.YtkbbnflblkkepaaGreatDoorZm23
import Derived.Laws.BytesArg
import Derived.Test.YtkbbnflblkkepaaGreatDoorZm27
namespace Go.Proofs.YtkbbnflblkkepaaGreatDoor
set_option linter.unusedVariables false
set_option linter.unusedSimpArgs false
open Go.RowKit

/-- The words as the model reads them. -/
def gwords (zs : List Int) (n : Nat) : List Int := (List.range n).map fun i => ((gval ((zs.drop (8 + 4 * i)).take 4) : Nat) : Int)
theorem gwords_succ (zs : List Int) (n : Nat) : gwords zs (n + 1) = gwords zs n ++ [((gval ((zs.drop (8 + 4 * n)).take 4) : Nat) : Int)] := by simp [gwords, List.range_succ]
theorem gwords_len (zs : List Int) (n : Nat) : (gwords zs n).length = n := by simp [gwords]

theorem set_mid (s : Int) (ds : List Int) (k : Nat) (x p q : Int) (hk : k < 12) (hd : ds.length = k) : (cellsI (rootI s (ds ++ List.replicate (12 - k) 0) p q)).setIfInBounds (1 + k) (.int .i64 x) = cellsI (rootI s ((ds ++ [x]) ++ List.replicate (12 - (k + 1)) 0) p q) := by
  rw [cellsI_set]
  congr 1
  subst hd
  unfold rootI
  rw [Nat.add_comm, List.set_cons_succ]
  congr 1
  rw [List.set_append_left _ _ (by simp; omega)]
  congr 1
  rw [List.set_append_right _ _ (Nat.le_refl _), Nat.sub_self, show 12 - ds.length = 12 - (ds.length + 1) + 1 from by omega, List.replicate_succ, List.set_cons_zero]
  simp
theorem get_eq (v v' : Value) (ts : List Int) (w : World) (hv : v = v') (h : Rd .u8 w v' ts) (hl : ts.length ≤ 8) (hbd : ∀ z ∈ ts, 0 ≤ z ∧ z < 256) :
    Calls Tryz.prog 22 #[v] w fun e w' => e = .returned (.int .i64 (gval ts)) ∧ w = w' := by
  subst hv
  exact get_any v ts w h hl hbd

set_option maxRecDepth 100000 in
set_option maxHeartbeats 1000000 in
theorem rootOf_any (v : Value) (zs : List Int) (w : World) (h : Rd .u8 w v zs) (hbd : ∀ z ∈ zs, 0 ≤ z ∧ z < 256) (hz : zs.length = 64) :
    Calls Tryz.prog 31 #[v] w fun e w' => e = .returned (.agg (cellsI (rootI (gval (zs.take 8)) (gwords zs 12) (gval ((zs.drop 56).take 4)) (gval ((zs.drop 60).take 4))))) ∧ Below w.heap.size w w' := by
  obtain ⟨bd, off, cap, rfl, hbw, hcl, hcm, hcell⟩ := h.partsC (by omega)
  unfold maxLen at hcm
  obtain ⟨W, hW⟩ : ∃ W, W = (w.alloc (.cells #[.int .i64 0, .int .i64 0, .int .i64 0, .int .i64 0, .int .i64 0, .int .i64 0, .int .i64 0, .int .i64 0, .int .i64 0, .int .i64 0, .int .i64 0, .int .i64 0, .int .i64 0, .int .i64 0, .int .i64 0] 34)) := ⟨_, rfl⟩
  have hb0 : Below w.heap.size w W := by rw [hW]; exact (Below.refl _ _).alloc (Nat.le_refl _) _
  have k0 : Blk W w.heap.size (cellsI (List.replicate 15 0)) 34 := by rw [hW]; exact Blk.new w _ _
  have RW : ∀ w2, (w2 = W.drew ∨ w2 = (W.alloc (.cells #[.int .i64 0, .int .i64 0, .int .i64 0, .int .i64 0, .int .i64 0, .int .i64 0, .int .i64 0, .int .i64 0, .int .i64 0, .int .i64 0, .int .i64 0, .int .i64 0, .int .i64 0, .int .i64 0, .int .i64 0] 34)).drew) → Rd .u8 w2 (.slice (some ⟨bd, off, none⟩) zs.length cap) zs := by
    rintro w2 (rfl | rfl)
    · exact (h.below hb0).below ((Below.refl _ _).drew)
    · exact (h.below hb0).below (((Below.refl _ _).alloc (Nat.le_refl _) _).drew)
  have HC1 := hide (fun (v : Value) (w2 : World) (hv : v = .slice (some ⟨bd, off, none⟩) 8 cap) (hw : (w2 = W.drew ∨ w2 = (W.alloc (.cells #[.int .i64 0, .int .i64 0, .int .i64 0, .int .i64 0, .int .i64 0, .int .i64 0, .int .i64 0, .int .i64 0, .int .i64 0, .int .i64 0, .int .i64 0, .int .i64 0, .int .i64 0, .int .i64 0, .int .i64 0] 34)).drew)) => get_eq v _ (zs.take 8) w2 hv (by
    have hR : Rd .u8 w2 (.slice (some ⟨bd, off, none⟩) zs.length cap) zs := RW w2 hw
    have := Rd.cut2 0 8 hR (by omega) (by omega)
    simpa using this) (by simp; omega) (fun z hz => hbd z (List.mem_of_mem_take hz)))
  have HC2 := hide (fun (v : Value) (w2 : World) (hv : v = .slice (some ⟨bd, off + 56, none⟩) 4 (cap - 56)) (hw : (w2 = W.drew ∨ w2 = (W.alloc (.cells #[.int .i64 0, .int .i64 0, .int .i64 0, .int .i64 0, .int .i64 0, .int .i64 0, .int .i64 0, .int .i64 0, .int .i64 0, .int .i64 0, .int .i64 0, .int .i64 0, .int .i64 0, .int .i64 0, .int .i64 0] 34)).drew)) => get_eq v _ ((zs.drop 56).take 4) w2 hv (by
    have hR : Rd .u8 w2 (.slice (some ⟨bd, off, none⟩) zs.length cap) zs := RW w2 hw
    exact Rd.cut2 56 4 hR (by omega) (by omega)) (by simp; omega) (fun z hz => hbd z (List.mem_of_mem_drop (List.mem_of_mem_take hz))))
  have HC3 := hide (fun (v : Value) (w2 : World) (hv : v = .slice (some ⟨bd, off + 60, none⟩) 4 (cap - 60)) (hw : (w2 = W.drew ∨ w2 = (W.alloc (.cells #[.int .i64 0, .int .i64 0, .int .i64 0, .int .i64 0, .int .i64 0, .int .i64 0, .int .i64 0, .int .i64 0, .int .i64 0, .int .i64 0, .int .i64 0, .int .i64 0, .int .i64 0, .int .i64 0, .int .i64 0] 34)).drew)) => get_eq v _ ((zs.drop 60).take 4) w2 hv (by
    have hR : Rd .u8 w2 (.slice (some ⟨bd, off, none⟩) zs.length cap) zs := RW w2 hw
    exact Rd.cut2 60 4 hR (by omega) (by omega)) (by simp; omega) (fun z hz => hbd z (List.mem_of_mem_drop (List.mem_of_mem_take hz))))
  generalize gval (zs.take 8) = x1 at HC1 ⊢
  generalize gval ((zs.drop 56).take 4) = x2 at HC2 ⊢
  generalize gval ((zs.drop 60).take 4) = x3 at HC3 ⊢
  have HB := hide hbd
  have HN := hide hz
  have HR := hide h
  have HB0 := hide (And.intro hb0 k0)
  have h8I : (8 : Int) ≤ (cap : Int) := by omega
  have h60I : (60 : Int) ≤ (cap : Int) := by omega
  have h64I : (64 : Int) ≤ (cap : Int) := by omega
  have hn0 : ¬ cap = 0 := by omega
  have hn56 : ¬ cap = 56 := by omega
  have hn60 : ¬ cap = 60 := by omega
  rw [hz]
  clear hbd hcell h hb0 hz RW hcl k0
  have HW := hide hW
  clear hW
  go_enter Tryz.func31, Tryz.ntmps31
  go_wp2
  rw [← HW.out]
  go_region_held3 (fun _ => True) (trivial) (first | (go_at_call 22; refine Calls.mono (HC1.out _ _ ?_ ?_) ?_; (with_reducible rfl); (first | exact .inl rfl | exact .inr rfl); rintro e w1 ⟨rfl, rfl⟩) | (go_at_call 22; refine Calls.mono (HC2.out _ _ ?_ ?_) ?_; (with_reducible rfl); (first | exact .inl rfl | exact .inr rfl); rintro e w1 ⟨rfl, rfl⟩) | (go_at_call 22; refine Calls.mono (HC3.out _ _ ?_ ?_) ?_; (with_reducible rfl); (first | exact .inl rfl | exact .inr rfl); rintro e w1 ⟨rfl, rfl⟩))
  all_goals
    have hWs : W.heap.size = w.heap.size + 1 := by rw [HW.out]; simp
    have hcI : (64 : Int) ≤ (cap : Int) := by omega
    go_wp2
    go_loopw [4, 15] (fun _ i wr => ∃ k : Nat, k ≤ 12 ∧ i = .int .i64 k ∧ w.heap.size + 1 < wr.heap.size ∧ Blk wr w.heap.size (cellsI (List.replicate 15 0)) 34 ∧ Blk wr W.heap.size (cellsI (rootI x1 (gwords zs k ++ List.replicate (12 - k) 0) x2 x3)) 34 ∧ Below w.heap.size w wr) (fun _ i _ => 12 - (intOf i).toNat)
    case atStart =>
      exact ⟨0, by omega, rfl, by show w.heap.size + 1 < (W.alloc _).heap.size; simp; omega, (HB0.out.2.alloc _), Blk.new W #[.int .i64 (x1 : Int), .int .i64 0, .int .i64 0, .int .i64 0, .int .i64 0, .int .i64 0, .int .i64 0, .int .i64 0, .int .i64 0, .int .i64 0, .int .i64 0, .int .i64 0, .int .i64 0, .int .i64 (x2 : Int), .int .i64 (x3 : Int)] 34, (HB0.out.1.alloc (by omega) _).drew⟩
    case round =>
      obtain ⟨k, hk, rfl, hlw, hB2, hB3, hb⟩ := hrel
      have HK := hide (And.intro hB2 (And.intro hB3 hb))
      clear hB2 hB3 hb HC1 HC2 HC3
      by_cases hlt : k < 12
      · have HC := hide (show Rd .u8 wr (.slice (some ⟨bd, off + (8 + 4 * k), none⟩) 4 (cap - (8 + 4 * k))) ((zs.drop (8 + 4 * k)).take 4) from (Rd.cut2 (8 + 4 * k) 4 HR.out (by omega) (by rw [HN.out]; omega)).below HK.out.2.2)
        go_wp2_with (go_at_call 22; fail)
        rw [show 12 + 4 * k - (8 + 4 * k) = 4 from by omega]
        refine (get_any _ ((zs.drop (8 + 4 * k)).take 4) _ HC.out (by simp; omega) (fun z hz => HB.out z (List.mem_of_mem_drop (List.mem_of_mem_take hz)))).mono ?_
        rintro e wq ⟨rfl, rfl⟩
        have HS := hide (gwords_succ zs k)
        generalize gval ((zs.drop (8 + 4 * k)).take 4) = y at HS ⊢
        obtain ⟨old, c4⟩ : ∃ u, wr.cell? ⟨W.heap.size, 1 + k, none⟩ = some u := by
          rw [HK.out.2.1.cell (1 + k)]
          exact ⟨_, Array.getElem?_eq_getElem (by rw [cellsI_size, rootI_len _ _ _ _ (by simp [gwords_len]; omega)]; omega)⟩
        have f4 := HK.out.2.1.frozen (1 + k)
        have HW2 := hide (show Blk (wr.setCell ⟨W.heap.size, 1 + k, none⟩ (.int .i64 (y : Int))) w.heap.size (cellsI (List.replicate 15 0)) 34 ∧ Blk (wr.setCell ⟨W.heap.size, 1 + k, none⟩ (.int .i64 (y : Int))) W.heap.size (cellsI (rootI x1 (gwords zs (k + 1) ++ List.replicate (12 - (k + 1)) 0) x2 x3)) 34 ∧ Below w.heap.size w (wr.setCell ⟨W.heap.size, 1 + k, none⟩ (.int .i64 (y : Int))) from by
          refine ⟨HK.out.1.other _ _ (by show w.heap.size ≠ W.heap.size; omega), ?_, HK.out.2.2.setCell (p := ⟨W.heap.size, 1 + k, none⟩) (by show _ ≤ W.heap.size; omega) _⟩
          have h3 := HK.out.2.1.set (1 + k) (.int .i64 (y : Int))
          rw [set_mid x1 (gwords zs k) k y x2 x3 hlt (gwords_len zs k), ← HS.out] at h3
          exact h3)
        clear HK HC hWs
        go_wp2
        go_roundw
        case rel => exact ⟨k + 1, by omega, by go_num, by simp; omega, HW2.out.1, HW2.out.2.1, HW2.out.2.2⟩
        case measure => simp [intOf]; omega
      · have e12 : k = 12 := by omega
        subst e12
        have H5 := hide (show Blk wr w.heap.size (cellsI (List.replicate 15 0)) 34 ∧ Blk wr W.heap.size (cellsI (rootI x1 (gwords zs 12) x2 x3)) 34 ∧ Below w.heap.size w wr from by
          have h3 := HK.out.2.1
          rw [Nat.sub_self, List.replicate_zero, List.append_nil] at h3
          exact ⟨HK.out.1, h3, HK.out.2.2⟩)
        have HZ := hide (show (cellsI (rootI x1 (gwords zs 12) x2 x3)).size = 15 from by rw [cellsI_size]; exact rootI_len _ _ _ _ (gwords_len zs 12))
        clear HK
        go_wp2_with (first | (refine wpList_load_row rfl 34 _ rfl W.heap.size rfl 34 (cellsI (rootI x1 (gwords zs 12) x2 x3)) (0, 0) _ H5.out.2.1 Tryz.underlying34 rfl (by rw [HZ.out]; exact info15) ?_) | (refine wpList_store_row rfl 34 _ _ rfl w.heap.size (cellsI (rootI x1 (gwords zs 12) x2 x3)) rfl rfl 34 _ H5.out.1 (by rw [HZ.out]; exact info15) (by rw [HZ.out]; rfl) (cellsI_one _) ?_))
        refine bodyPost_ret (v := .agg (cellsI (rootI x1 (gwords zs 12) x2 x3))) ?_ rfl ⟨rfl, below_setRow H5.out.2.2 (Nat.le_refl _) _⟩
        exact results_cell_row rfl _ _ w.heap.size 34 (cellsI (rootI x1 (gwords zs 12) x2 x3)) (0, 0) _ rfl (H5.out.1.row _) Tryz.underlying34 rfl (by rw [HZ.out]; exact info15)
end Go.Proofs.YtkbbnflblkkepaaGreatDoor

namespace Go.Proofs.YtkbbnflblkkepaaGreatDoor
set_option linter.unusedVariables false
set_option linter.unusedSimpArgs false
open Go.RowKit

theorem le_unle : ∀ (ts : List Int), (∀ z ∈ ts, 0 ≤ z ∧ z < 256) → le ts.length (unle ts) = ts
  | [], _ => rfl
  | z :: ts, h => by
    have h1 := h z (by simp)
    have ih := le_unle ts (fun y hy => h y (by simp [hy]))
    rw [List.length_cons, le, unle]
    obtain ⟨n, rfl⟩ := Int.eq_ofNat_of_zero_le h1.1
    have hn : n < 256 := by omega
    rw [Int.toNat_natCast, show (n + 256 * unle ts) % 256 = n from by omega, show (n + 256 * unle ts) / 256 = unle ts from by omega, ih]
theorem bytes_cut {zs : List Int} (h : ∀ z ∈ zs, 0 ≤ z ∧ z < 256) (lo n : Nat) : ∀ z ∈ (zs.drop lo).take n, 0 ≤ z ∧ z < 256 := fun z hz => h z (List.mem_of_mem_drop (List.mem_of_mem_take hz))
theorem bytesW_words (zs : List Int) (p : Nat) (h : ∀ z ∈ zs, 0 ≤ z ∧ z < 256) : ∀ n, p + 4 * n ≤ zs.length → bytesW (wordsFrom zs p n) = (zs.drop p).take (4 * n)
  | 0, _ => by simp [wordsFrom, bytesW]
  | n + 1, hl => by
    have ih := bytesW_words zs p h n (by omega)
    rw [wordsFrom_succ, bytesW_append, ih]
    have hlen : ((zs.drop (p + 4 * n)).take 4).length = 4 := by simp; omega
    have h1 : bytesW [((unle ((zs.drop (p + 4 * n)).take 4) : Nat) : Int)] = (zs.drop (p + 4 * n)).take 4 := by
      have h2 := le_unle _ (bytes_cut h (p + 4 * n) 4)
      rw [hlen] at h2
      unfold bytesW
      simp only [List.flatMap_cons, List.flatMap_nil, List.append_nil, Int.toNat_natCast]
      exact h2
    rw [h1, show 4 * (n + 1) = 4 * n + 4 from by omega, List.take_add, List.drop_drop]
theorem gval4 (zs : List Int) (h : ∀ z ∈ zs, 0 ≤ z ∧ z < 256) (lo : Nat) : gval ((zs.drop lo).take 4) = unle ((zs.drop lo).take 4) := by
  apply gval_small
  have h1 := unle_lt _ (bytes_cut h lo 4)
  have h2 : ((zs.drop lo).take 4).length ≤ 4 := by simp; omega
  have h3 : 256 ^ ((zs.drop lo).take 4).length ≤ 256 ^ 4 := Nat.pow_le_pow_right (by decide) h2
  omega
theorem gwords_words (zs : List Int) (h : ∀ z ∈ zs, 0 ≤ z ∧ z < 256) (n : Nat) : gwords zs n = wordsFrom zs 8 n := by
  unfold gwords wordsFrom
  congr 1
  funext i
  rw [gval4 zs h]
theorem rightR_size {s : Int} {ds : List Int} {p q : Int} (h : s < 0 ∨ 262144 < s) : rightR s ds p q = false := by
  unfold rightR
  rcases h with h | h
  · rw [decide_eq_false (show ¬ 0 ≤ s by omega)]; rfl
  · rw [decide_eq_false (show ¬ s ≤ 262144 by omega), Bool.and_false]; rfl

/-- What the program reads is what the model reads. -/
theorem root_agree (zs : List Int) (s : Int) (ds : List Int) (p q : Int) (h : ∀ z ∈ zs, 0 ≤ z ∧ z < 256) (hz : zs.length = 64) (hd : ds.length = 12) (hr : RootAt zs 0 s ds p q) :
    ds = gwords zs 12 ∧ p = ((gval ((zs.drop 56).take 4) : Nat) : Int) ∧ q = ((gval ((zs.drop 60).take 4) : Nat) : Int) ∧ (rightR s ds p q = rightR ((gval (zs.take 8) : Nat) : Int) ds p q) ∧
      (rightR s ds p q = true → s = ((gval (zs.take 8) : Nat) : Int) ∧ bytesR s ds p q = zs) := by
  obtain ⟨h1, h2⟩ := hr
  rw [Nat.zero_add] at h2
  rw [List.drop_zero] at h1
  have h3 : wordsFrom zs 8 14 = gwords zs 12 ++ [((gval ((zs.drop 56).take 4) : Nat) : Int), ((gval ((zs.drop 60).take 4) : Nat) : Int)] := by
    rw [wordsFrom_succ, wordsFrom_succ, gwords_words zs h, gval4 zs h, gval4 zs h]
    simp
  have h2' := h2
  rw [h3] at h2'
  obtain ⟨e1, e2⟩ := List.append_inj h2' (by rw [hd, gwords_len])
  simp at e2
  have hb8 : ∀ z ∈ zs.take 8, 0 ≤ z ∧ z < 256 := fun z hz => h z (List.mem_of_mem_take hz)
  have hX := unle_lt (zs.take 8) hb8
  have hl8 : (zs.take 8).length = 8 := by simp; omega
  rw [hl8] at hX
  have hle := le_unle (zs.take 8) hb8
  rw [hl8] at hle
  have hw := bytesW_words zs 8 h 14 (by omega)
  have hbig : (256 : Nat) ^ 8 = 18446744073709551616 := by decide
  rw [hbig] at hX
  refine ⟨e1, e2.1, e2.2, ?_, ?_⟩
  · by_cases hs : unle (zs.take 8) < 18014398509481984
    · rw [gval_small _ hs, h1]
      congr 1
      unfold wrap64
      omega
    · rw [rightR_size (s := s), rightR_size]
      · right
        unfold gval
        rw [if_pos (by omega)]
        decide
      · rw [h1]
        unfold wrap64
        omega
  · intro hR
    have hs : unle (zs.take 8) < 18014398509481984 := by
      refine Classical.byContradiction fun hn => ?_
      rw [rightR_size (s := s)] at hR
      · cases hR
      · rw [h1]
        unfold wrap64
        omega
    have hsx : s = ((unle (zs.take 8) : Nat) : Int) := by
      rw [h1]
      unfold wrap64
      omega
    refine ⟨by rw [gval_small _ hs, hsx], ?_⟩
    unfold bytesR
    rw [hsx, Int.toNat_natCast, hle, h2, hw]
    rw [List.take_of_length_le (show (zs.drop 8).length ≤ 4 * 14 by simp; omega)]
    exact List.take_append_drop 8 zs
end Go.Proofs.YtkbbnflblkkepaaGreatDoor

namespace Go.Proofs.YtkbbnflblkkepaaGreatDoor
set_option linter.unusedVariables false
set_option linter.unusedSimpArgs false
open Go.RowKit

theorem spec_bytes (zs : List Int) (h : ∀ z ∈ zs, 0 ≤ z ∧ z < 256) (hz : zs.length = 64) (hR : rightR ((gval (zs.take 8) : Nat) : Int) (gwords zs 12) ((gval ((zs.drop 56).take 4) : Nat) : Int) ((gval ((zs.drop 60).take 4) : Nat) : Int) = true) :
    bytesR ((gval (zs.take 8) : Nat) : Int) (gwords zs 12) ((gval ((zs.drop 56).take 4) : Nat) : Int) ((gval ((zs.drop 60).take 4) : Nat) : Int) = zs := by
  have h3 : gwords zs 12 ++ [((gval ((zs.drop 56).take 4) : Nat) : Int), ((gval ((zs.drop 60).take 4) : Nat) : Int)] = wordsFrom zs 8 14 := by
    rw [wordsFrom_succ, wordsFrom_succ, gwords_words zs h, gval4 zs h, gval4 zs h]
    simp
  obtain ⟨_, _, _, h4, h5⟩ := root_agree zs _ _ _ _ h hz (gwords_len zs 12) (show RootAt zs 0 _ (gwords zs 12) _ _ from ⟨rfl, by rw [h3]⟩)
  rw [h4] at h5
  obtain ⟨h6, h7⟩ := h5 hR
  rw [← h6]
  exact h7

/-- What DecodeRoot tells of bytes. -/
def okDR (zs : List Int) : Bool := decide (zs.length = 64) && rightR ((gval (zs.take 8) : Nat) : Int) (gwords zs 12) ((gval ((zs.drop 56).take 4) : Nat) : Int) ((gval ((zs.drop 60).take 4) : Nat) : Int)
def decR (zs : List Int) : List Int := if okDR zs = true then rootI ((gval (zs.take 8) : Nat) : Int) (gwords zs 12) ((gval ((zs.drop 56).take 4) : Nat) : Int) ((gval ((zs.drop 60).take 4) : Nat) : Int) else noRoot
def codeDR (zs : List Int) : Int := if okDR zs = true then 0 else 21
theorem decR_root (zs : List Int) : ∃ s ds p q, ds.length = 12 ∧ decR zs = rootI s ds p q := by
  unfold decR
  split
  · exact ⟨_, _, _, _, gwords_len zs 12, rfl⟩
  · exact ⟨0, List.replicate 12 0, 0, 0, rfl, rfl⟩
end Go.Proofs.YtkbbnflblkkepaaGreatDoor

namespace Go.Proofs.YtkbbnflblkkepaaGreatDoor
set_option linter.unusedVariables false
set_option linter.unusedSimpArgs false
open Go.RowKit

def noIno : List Int := List.replicate 24 0

theorem noIno_range {w : World} {b : Nat} {t : TypeId} (h : Blk w b (cellsI noIno) t) : w.rangeAt b 0 (noIno.map (Value.int .i64)) := by
  have := h.range 0 24 (by decide)
  exact this
end Go.Proofs.YtkbbnflblkkepaaGreatDoor
