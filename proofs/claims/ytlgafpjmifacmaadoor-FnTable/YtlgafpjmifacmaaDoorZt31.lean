/- Slices of inodes: what they read as; a copy (toInodeS), two that are the same held against each other (eqInodeS), their size (szInodeS). -/
import Derived.Test.YtlgafpjmifacmaaDoorZt29
import Derived.Test.YtlgafpjmifacmaaDoorZt30
import Derived.Test.YtlgafpjmifacmaaDoorZt02
import Derived.Deep.RegionHeld3
namespace Go.Proofs.YtlgafpjmifacmaaDoor
set_option linter.unusedVariables false
set_option linter.unusedSimpArgs false
open Go.RowKit

/-- The slice value v reads in w as n inodes, the integers zs, twenty-four each. -/
def RdT (w : World) (v : Value) (n : Nat) (zs : List Int) : Prop :=
  zs.length = n * 24 ∧ ∃ a cap, v = .slice a n cap ∧ (0 < n → ∃ b off, a = some ⟨b, off, none⟩ ∧ b < w.heap.size ∧ ∀ i, i < n * 24 → w.cell? ⟨b, off + i, none⟩ = some (.int .i64 (zs.getD i 0))) ∧ n ≤ cap ∧ cap ≤ maxLen
/-- The integers of inode k. -/
def rowT (zs : List Int) (k : Nat) : List Int := (zs.drop (k * 24)).take 24
theorem rowT_len (zs : List Int) (k n : Nat) (hz : zs.length = n * 24) (hk : k < n) : (rowT zs k).length = 24 := by simp [rowT]; omega
theorem rowT_get (zs : List Int) (k j : Nat) (hj : j < 24) : (rowT zs k).getD j 0 = zs.getD (k * 24 + j) 0 := by
  simp [rowT, List.getD, hj]
theorem RdT.below {w w' : World} {v : Value} {n : Nat} {zs : List Int} (h : RdT w v n zs) (hb : Below w.heap.size w w') : RdT w' v n zs := by
  obtain ⟨hz, a, cap, rfl, hc, hcap⟩ := h
  refine ⟨hz, a, cap, rfl, fun hne => ?_, hcap⟩
  obtain ⟨b, off, rfl, hlt, hcell⟩ := hc hne
  exact ⟨b, off, rfl, Nat.lt_of_lt_of_le hlt hb.size, fun i hi => (hb.cell (p := ⟨b, off + i, none⟩) hlt).trans (hcell i hi)⟩
theorem RdT.parts {w : World} {v : Value} {n : Nat} {zs : List Int} (h : RdT w v n zs) : (∃ a cap, v = .slice a n cap ∧ n < 1) ∨
    ∃ b off cap, v = .slice (some ⟨b, off, none⟩) n cap ∧ b < w.heap.size ∧ ∀ i, i < n * 24 → w.cell? ⟨b, off + i, none⟩ = some (.int .i64 (zs.getD i 0)) := by
  obtain ⟨hz, a, cap, rfl, hc, _⟩ := h
  rcases Nat.eq_zero_or_pos n with h0 | h0
  · exact .inl ⟨a, cap, rfl, by omega⟩
  · obtain ⟨b, off, rfl, hlt, hcell⟩ := hc h0
    exact .inr ⟨b, off, cap, rfl, hlt, hcell⟩
theorem RdT.len {w : World} {v : Value} {n : Nat} {zs : List Int} (h : RdT w v n zs) : n ≤ maxLen := by
  obtain ⟨_, _, cap, _, _, h1, h2⟩ := h; omega
theorem range_row {w : World} {b off n k : Nat} {zs : List Int} (hz : zs.length = n * 24) (hk : k < n) (hc : ∀ i, i < n * 24 → w.cell? ⟨b, off + i, none⟩ = some (.int .i64 (zs.getD i 0))) : w.rangeAt b (off + k * 24) ((rowT zs k).map (Value.int .i64)) := by
  intro j v hv
  have hj : j < 24 := by
    have := (List.getElem?_eq_some_iff.1 hv).1
    rw [List.length_map, rowT_len zs k n hz hk] at this
    exact this
  have e : (rowT zs k)[j]? = some (zs.getD (k * 24 + j) 0) := by
    rw [← rowT_get zs k j hj]
    simp [List.getD, show j < (rowT zs k).length by rw [rowT_len zs k n hz hk]; exact hj]
  rw [List.getElem?_map, e] at hv
  obtain rfl := Option.some.inj hv
  rw [Nat.add_assoc, hc (k * 24 + j) (by omega)]
theorem RdT.own {w : World} {base : Nat} {e : TypeId} {v : Value} {n : Nat} {zs : List Int} (h : w.ownsRow base e 24 v n (zs.map (Value.int .i64))) : RdT w v n zs := by
  have hl : zs.length = n * 24 := by have := h.1; simpa using this
  rcases h.2 with ⟨rfl, h0⟩ | ⟨g, cap, cur, rfl, hb, hg, hnc, hcm, hcs, htake⟩
  · subst h0
    exact ⟨hl, none, 0, rfl, fun h => absurd h (by omega), by simp, by simp⟩
  · refine ⟨hl, some ⟨g, 0, none⟩, cap, rfl, fun _ => ⟨g, 0, rfl, (Array.getElem?_eq_some_iff.1 hg).1, fun i hi => ?_⟩, hnc, hcm⟩
    have hc := cell_of_row w g i cur e (0, 0) hg
    rw [Nat.zero_add, hc]
    have : (cur.toList.take (n * 24))[i]? = (zs.map (Value.int .i64))[i]? := by rw [htake]
    rw [List.getElem?_take, if_pos hi] at this
    simpa [List.getD, show i < zs.length by omega] using this

theorem infoT24 : (Tryd.prog.info? 44).map (fun i => (i.zero, i.size, i.bytes)) = some (some (.agg (cellsI (List.replicate 24 0))), 24, 192) := by kernel_rfl
theorem made_zero24 (n : Nat) : (madeCells (Value.agg (cellsI (List.replicate 24 0))).cells (n * 24)).toList = (List.replicate (n * 24) (0 : Int)).map (Value.int .i64) := by
  apply List.ext_getElem?
  intro j
  have hm : j % 24 < 24 := Nat.mod_lt _ (by omega)
  have hs := cellsI_get (List.replicate 24 0) (j % 24) (by simpa using hm)
  have hv : (List.replicate 24 (0 : Int)).getD (j % 24) 0 = 0 := by
    rw [List.getD, List.getElem?_replicate, if_pos hm]; rfl
  rw [hv] at hs
  have hc : (Value.agg (cellsI (List.replicate 24 0))).cells = cellsI (List.replicate 24 0) := rfl
  rw [hc]
  by_cases hj : j < n * 24
  · rw [List.getElem?_map, List.getElem?_replicate, if_pos hj]
    have hx : (cellsI (List.replicate 24 0))[j % 24]! = .int .i64 0 := by rw [getElem!_def, hs]
    have hsz : (cellsI (List.replicate 24 0)).size = 24 := by rw [cellsI_size, List.length_replicate]
    generalize cellsI (List.replicate 24 0) = c at hx hsz
    simp [madeCells, hj, hsz, hx]
  · simp [madeCells, hj]
theorem own_blk {w : World} {base g n : Nat} {e : TypeId} {zs : List Int} (h : w.ownsRow base e 24 (.slice (some ⟨g, 0, none⟩) n n) n (zs.map (Value.int .i64))) : Blk w g (cellsI zs) e := by
  rcases h.2 with ⟨e0, _⟩ | ⟨g', cap, cur, e1, hb, hg, hnc, hcm, hcs, htake⟩
  · simp at e0
  · injection e1 with e1 e2 e3
    injection e1 with e1
    injection e1 with e4
    subst e3 e4
    have : cur = cellsI zs := by
      apply Array.ext'
      rw [List.take_of_length_le (by simp; omega)] at htake
      rw [htake]; rfl
    subst this
    exact hg
theorem blk_own {w : World} {base g n : Nat} {e : TypeId} {zs : List Int} (h : Blk w g (cellsI zs) e) (hz : zs.length = n * 24) (hb : base ≤ g) (hm : n ≤ maxLen) : w.ownsRow base e 24 (.slice (some ⟨g, 0, none⟩) n n) n (zs.map (Value.int .i64)) :=
  ⟨by simpa using hz, .inr ⟨g, n, cellsI zs, rfl, hb, h, Nat.le_refl _, hm, by rw [cellsI_size, hz], by
    rw [List.take_of_length_le (by show (cellsI zs).toList.length ≤ _; rw [Array.length_toList, cellsI_size]; omega)]; rfl⟩⟩
theorem fill_row (zs : List Int) (k n : Nat) (hz : zs.length = n * 24) (hk : k < n) : over (zs.take (k * 24) ++ List.replicate ((n - k) * 24) 0) (k * 24) (rowT zs k) = zs.take ((k + 1) * 24) ++ List.replicate ((n - (k + 1)) * 24) 0 := by
  have hl := rowT_len zs k n hz hk
  have e1 : (zs.take (k * 24)).length = k * 24 := by simp; omega
  unfold over
  rw [hl, List.take_append_of_le_length (by omega), List.take_of_length_le (by omega), List.drop_append, e1, List.drop_of_length_le (by omega), List.nil_append, List.drop_replicate]
  have e2 : zs.take ((k + 1) * 24) = zs.take (k * 24) ++ rowT zs k := by
    unfold rowT
    rw [← List.take_add]
    congr 1
    omega
  rw [e2]
  congr 2
  omega

theorem szInodeS_any (v : Value) (n : Nat) (zs : List Int) (w : World) (h : RdT w v n zs) :
    Calls Tryd.prog 6 #[v, .int .i64 1048576] w fun e w' => e = .returned (.int .i64 (if (1048576 : Int) < n then -1 else 1048576 - n)) ∧ w' = w := by
  obtain ⟨hz, a, cap, rfl, hc, hcap⟩ := h
  have hm : maxLen = 9223372036854775807 := rfl
  clear hc
  by_cases hb : (1048576 : Int) < n
  · have HR := hide (show (if (1048576 : Int) < n then (-1 : Int) else 1048576 - (n : Int)) = -1 from if_pos hb)
    rw [HR.out]
    go_enter Tryd.func6, Tryd.ntmps6
    go_wp2
    go_ret
    exact ⟨rfl, rfl⟩
  · have HR := hide (show (if (1048576 : Int) < n then (-1 : Int) else 1048576 - (n : Int)) = 1048576 - (n : Int) from if_neg hb)
    rw [HR.out]
    go_enter Tryd.func6, Tryd.ntmps6
    go_wp2
    go_ret
    exact ⟨by go_num, rfl⟩

set_option maxRecDepth 100000 in
set_option maxHeartbeats 2000000 in
theorem toInodeS_any (v : Value) (n : Nat) (zs : List Int) (w : World) (h : RdT w v n zs) (hn : n ≤ 1048576) :
    Calls Tryd.prog 8 #[v] w fun e w' => ∃ v', e = .returned v' ∧ w'.ownsRow w.heap.size 44 24 v' n (zs.map (Value.int .i64)) ∧ Below w.heap.size w w' := by
  obtain ⟨i0, hi, hz0, hz1, hz2⟩ := info_parts infoT24
  have hm := h.len
  have hz := h.1
  have hnm : n ≤ 9223372036854775807 := by omega
  rcases h.parts with ⟨a, cap, rfl, hlow⟩ | ⟨b, off, cap, rfl, hbw, hcell⟩
  all_goals
    clear h
    go_enter Tryd.func8, Tryd.ntmps8
    go_wp2_with (refine wpList_make_full _ rfl (.tmp 6) (.tmp 6) 27 rfl w.heap.size 44 i0 (.agg (cellsI (List.replicate 24 0))) 24 Tryd.underlying27 hi hz0 hz1 .i64 .i64 n n n rfl rfl rfl rfl (by rw [hz2]; omega) hm (Nat.le_refl _) ?_; intro w1 hown hgrow; rw [made_zero24] at hown)
    have hb1 : Below w.heap.size w w1 := (Below.refl _ _).grown hgrow (Nat.le_refl _) (fun k h => by cases h)
    clear hgrow
    have K1 := own_blk hown
    have hle : w.heap.size < w1.heap.size := K1.lt
    clear hown
    go_loopw [4] (fun i wr => ∃ k : Nat, k ≤ n ∧ i = .int .i64 k ∧ Blk wr w.heap.size (cellsI (zs.take (k * 24) ++ List.replicate ((n - k) * 24) 0)) 44 ∧ Below w.heap.size w wr) (fun i _ => n - (intOf i).toNat)
    case atStart => exact ⟨0, Nat.zero_le _, rfl, by simpa using K1, hb1⟩
    case round =>
      clear K1 hb1 hle
      obtain ⟨k, hk, rfl, kb, hb1⟩ := hrel
      by_cases hlt : k < n
      · first
        | omega
        | (have hr := range_row (w := wr) (b := b) (off := off) hz hlt (fun i hi => (hb1.cell (p := ⟨b, off + i, none⟩) hbw).trans (hcell i hi))
           have hf := fill_row zs k n hz hlt
           obtain ⟨k0, k1, k2, k3, k4, k5, k6, k7, k8, s, ds, p, q, hd, hrow⟩ := ino_of_list (rowT zs k) (rowT_len zs k n hz hlt)
           rw [hrow] at hr hf
           have HR := hide hr
           have HF := hide hf
           have HD := hide hd
           have HK := hide (And.intro kb hb1)
           have HL := hide (show (zs.take (k * 24) ++ List.replicate ((n - k) * 24) 0).length = n * 24 by simp; omega)
           have HZ := hide (show (cellsI (inoI [k0, k1, k2, k3, k4, k5, k6, k7, k8] s ds p q)).size = 24 from by rw [cellsI_size]; exact inoI_len _ _ _ _ _ rfl HD.out)
           clear hr hf hrow hd kb hb1 hcell
           go_wp2_with (first | (refine wpList_load_mid rfl 50 _ rfl b (off + k * 24) rfl ((inoI [k0, k1, k2, k3, k4, k5, k6, k7, k8] s ds p q).map (Value.int .i64)) _ HR.out Tryd.underlying50 rfl (by rw [List.length_map, ← cellsI_size, HZ.out]; exact infoL24) ?_) | (go_at_call 26; fail))
           refine (toInode_any k0 k1 k2 k3 k4 k5 k6 k7 k8 s ds p q _ HD.out).mono ?_
           rintro e w2 ⟨rfl, b2⟩
           have K2 := hide (HK.out.1.below b2 HK.out.1.lt)
           have B2 := hide (HK.out.2.trans (b2.mono HK.out.2.size))
           have K3 := hide (show Blk (w2.setCells w.heap.size (k * 24) (cellsI (inoI [k0, k1, k2, k3, k4, k5, k6, k7, k8] s ds p q)).toList) w.heap.size (cellsI (zs.take ((k + 1) * 24) ++ List.replicate ((n - (k + 1)) * 24) 0)) 44 ∧ Below w.heap.size w (w2.setCells w.heap.size (k * 24) (cellsI (inoI [k0, k1, k2, k3, k4, k5, k6, k7, k8] s ds p q)).toList) from
             ⟨by rw [← HF.out]; exact Blk.cells (inoI [k0, k1, k2, k3, k4, k5, k6, k7, k8] s ds p q) (k * 24) K2.out (by rw [inoI_len _ _ _ _ _ rfl HD.out, HL.out]; omega), below_cells (Nat.le_refl _) _ (k * 24) B2.out⟩)
           clear b2 HK B2
           go_wp2_with (first | (refine wpList_store_mid rfl 44 _ _ rfl w.heap.size (k * 24) (cellsI (inoI [k0, k1, k2, k3, k4, k5, k6, k7, k8] s ds p q)) rfl rfl (K2.out.there (k * 24) _ (by rw [HZ.out, cellsI_size, HL.out]; omega)) (by rw [HZ.out]; exact info24) (cellsI_one _) ?_; generalize w2.setCells w.heap.size (k * 24) (cellsI (inoI [k0, k1, k2, k3, k4, k5, k6, k7, k8] s ds p q)).toList = w3 at K3 ⊢))
           go_roundw
           case rel => exact ⟨k + 1, by omega, by go_num, K3.out.1, K3.out.2⟩
           case measure => simp [intOf]; omega)
      · have hkn : k = n := by omega
        subst hkn
        rw [List.take_of_length_le (by omega), Nat.sub_self, Nat.zero_mul, List.replicate_zero, List.append_nil] at kb
        have HB := hide (And.intro kb hb1)
        clear kb hb1
        go_wp2
        go_ret
        exact ⟨_, rfl, blk_own HB.out.1 hz (Nat.le_refl _) hm, HB.out.2⟩

set_option maxRecDepth 100000 in
set_option maxHeartbeats 2000000 in
theorem eqInodeS_same (v1 v2 : Value) (n : Nat) (zs : List Int) (w : World) (h1 : RdT w v1 n zs) (h2 : RdT w v2 n zs) :
    Calls Tryd.prog 11 #[v1, v2] w fun e w' => e = .returned (.bool true) ∧ Below w.heap.size w w' := by
  have hm := h1.len
  have hz := h1.1
  unfold maxLen at hm
  rcases h1.parts with ⟨a, cap, rfl, hlow⟩ | ⟨b, off, cap, rfl, hbw, hcell⟩
  all_goals
    rcases h2.parts with ⟨a', cap', rfl, hlow'⟩ | ⟨b', off', cap', rfl, hbw', hcell'⟩
    all_goals
      clear h1 h2
      go_enter Tryd.func11, Tryd.ntmps11
      go_wp2
      go_loopw [5] (fun i wr => ∃ k : Nat, k ≤ n ∧ i = .int .i64 k ∧ Below w.heap.size w wr) (fun i _ => n - (intOf i).toNat)
      case atStart => exact ⟨0, Nat.zero_le _, rfl, Below.refl _ _⟩
      case round =>
        obtain ⟨k, hk, rfl, hb1⟩ := hrel
        by_cases hlt : k < n
        · first
          | omega
          | (have hr := range_row (w := wr) (b := b) (off := off) hz hlt (fun i hi => (hb1.cell (p := ⟨b, off + i, none⟩) hbw).trans (hcell i hi))
             have hr' := range_row (w := wr) (b := b') (off := off') hz hlt (fun i hi => (hb1.cell (p := ⟨b', off' + i, none⟩) hbw').trans (hcell' i hi))
             obtain ⟨k0, k1, k2, k3, k4, k5, k6, k7, k8, s, ds, p, q, hd, hrow⟩ := ino_of_list (rowT zs k) (rowT_len zs k n hz hlt)
             rw [hrow] at hr hr'
             have HR := hide hr
             have HR' := hide hr'
             have HD := hide hd
             have HK := hide hb1
             have HZ := hide (show (cellsI (inoI [k0, k1, k2, k3, k4, k5, k6, k7, k8] s ds p q)).size = 24 from by rw [cellsI_size]; exact inoI_len _ _ _ _ _ rfl HD.out)
             clear hr hr' hrow hd hb1 hcell hcell'
             go_wp2_with fail
             refine wp_region_noPanic ?_
             refine wp_region_held_drew (S := fun w' => w'.rangeAt b (off + k * 24) ((inoI [k0, k1, k2, k3, k4, k5, k6, k7, k8] s ds p q).map (Value.int .i64)) ∧ w'.rangeAt b' (off' + k * 24) ((inoI [k0, k1, k2, k3, k4, k5, k6, k7, k8] s ds p q).map (Value.int .i64))) (by kernel_rfl) ⟨by simpa using HR.out, by simpa using HR'.out⟩ (fun hH => ?_)
             refine wpAnyH_take (i := 0) (oi := _) (v := .slice (some ⟨b, off, none⟩) n cap) rfl (by kernel_rfl) (by kernel_rfl) (by kernel_rfl) (fun _ _ _ h => h) (Or.inl ⟨by rfl, fun w' hw' => by go_simp⟩) hH ?_
             try simp only [Act.put, List.setIfInBounds_toArray, List.set_cons_zero, List.set_cons_succ]
             refine wpAnyH_take (i := 1) (oi := _) (v := .int .i64 k) rfl (by kernel_rfl) (by kernel_rfl) (by kernel_rfl) (fun _ _ _ h => h) (Or.inl ⟨by rfl, fun w' hw' => by go_simp⟩) hH ?_
             try simp only [Act.put, List.setIfInBounds_toArray, List.set_cons_zero, List.set_cons_succ]
             refine wpAnyH_take (i := 2) (oi := _) (v := .pointer (some ⟨b, off + k * 24, none⟩)) rfl (by kernel_rfl) (by kernel_rfl) (by kernel_rfl) (fun _ _ _ h => h) (Or.inl ⟨by rfl, fun w' hw' => by go_simp⟩) hH ?_
             try simp only [Act.put, List.setIfInBounds_toArray, List.set_cons_zero, List.set_cons_succ]
             refine wpAnyH_take (i := 3) (oi := _) (v := .agg (cellsI (inoI [k0, k1, k2, k3, k4, k5, k6, k7, k8] s ds p q))) rfl (by kernel_rfl) (by kernel_rfl) (by kernel_rfl) (fun _ _ _ h => h) (yieldsIf_load_mid (by rfl) 44 _ rfl b (off + k * 24) rfl ((inoI [k0, k1, k2, k3, k4, k5, k6, k7, k8] s ds p q).map (Value.int .i64)) _ (fun w' h => h.1) Tryd.underlying44 rfl (by rw [List.length_map, ← cellsI_size, HZ.out]; exact info24)) hH ?_
             try simp only [Act.put, List.setIfInBounds_toArray, List.set_cons_zero, List.set_cons_succ]
             refine wpAnyH_take (i := 4) (oi := _) (v := .slice (some ⟨b', off', none⟩) n cap') rfl (by kernel_rfl) (by kernel_rfl) (by kernel_rfl) (fun _ _ _ h => h) (Or.inl ⟨by rfl, fun w' hw' => by go_simp⟩) hH ?_
             try simp only [Act.put, List.setIfInBounds_toArray, List.set_cons_zero, List.set_cons_succ]
             refine wpAnyH_take (i := 5) (oi := _) (v := .int .i64 k) rfl (by kernel_rfl) (by kernel_rfl) (by kernel_rfl) (fun _ _ _ h => h) (Or.inl ⟨by rfl, fun w' hw' => by go_simp⟩) hH ?_
             try simp only [Act.put, List.setIfInBounds_toArray, List.set_cons_zero, List.set_cons_succ]
             refine wpAnyH_take (i := 6) (oi := _) (v := .pointer (some ⟨b', off' + k * 24, none⟩)) rfl (by kernel_rfl) (by kernel_rfl) (by kernel_rfl) (fun _ _ _ h => h) (Or.inl ⟨by rfl, fun w' hw' => by go_simp⟩) hH ?_
             try simp only [Act.put, List.setIfInBounds_toArray, List.set_cons_zero, List.set_cons_succ]
             refine wpAnyH_take (i := 7) (oi := _) (v := .agg (cellsI (inoI [k0, k1, k2, k3, k4, k5, k6, k7, k8] s ds p q))) rfl (by kernel_rfl) (by kernel_rfl) (by kernel_rfl) (fun _ _ _ h => h) (yieldsIf_load_mid (by rfl) 44 _ rfl b' (off' + k * 24) rfl ((inoI [k0, k1, k2, k3, k4, k5, k6, k7, k8] s ds p q).map (Value.int .i64)) _ (fun w' h => h.2) Tryd.underlying44 rfl (by rw [List.length_map, ← cellsI_size, HZ.out]; exact info24)) hH ?_
             try simp only [Act.put, List.setIfInBounds_toArray, List.set_cons_zero, List.set_cons_succ]
             refine wpAnyH_ready (rs := [8]) (by kernel_rfl) (by simp) ?_
             refine AllReadyH.cons (o := _) rfl (fun K hK => ?_) AllReadyH.nil
             go_simp
             refine (eqInode_same k0 k1 k2 k3 k4 k5 k6 k7 k8 s ds p q _ HD.out).mono ?_
             rintro e w2 ⟨rfl, b2⟩
             have b3 := ((Below.refl _ _).drew).trans b2
             have B2 := hide (HK.out.trans (b3.mono HK.out.size))
             have s2 : w2.rangeAt b (off + k * 24) ((inoI [k0, k1, k2, k3, k4, k5, k6, k7, k8] s ds p q).map (Value.int .i64)) ∧ w2.rangeAt b' (off' + k * 24) ((inoI [k0, k1, k2, k3, k4, k5, k6, k7, k8] s ds p q).map (Value.int .i64)) := ⟨fun j v hv => (b3.cell (p := ⟨b, off + k * 24 + j, none⟩) (Nat.lt_of_lt_of_le hbw HK.out.size)).trans (HR.out j v hv), fun j v hv => (b3.cell (p := ⟨b', off' + k * 24 + j, none⟩) (Nat.lt_of_lt_of_le hbw' HK.out.size)).trans (HR'.out j v hv)⟩
             refine hK.out _ _ s2 (fun hH => ?_)
             clear hK K s2 b2 b3 HK
             try simp only [Act.put, List.setIfInBounds_toArray, List.set_cons_zero, List.set_cons_succ]
             refine wpAnyH_take (i := 9) (oi := _) (v := .bool false) rfl (by kernel_rfl) (by kernel_rfl) (by kernel_rfl) (fun _ _ _ h => h) (Or.inl ⟨by rfl, fun w' hw' => by go_simp⟩) hH ?_
             try simp only [Act.put, List.setIfInBounds_toArray, List.set_cons_zero, List.set_cons_succ]
             refine wpAnyH_done (by kernel_rfl) (NoPanic.normal ?_) _
             go_wp2
             go_roundw
             case rel => exact ⟨k + 1, by omega, by go_num, B2.out⟩
             case measure => simp [intOf]; omega)
        · have HB := hide hb1
          clear hb1
          go_wp2
          go_ret
          exact ⟨rfl, HB.out⟩
end Go.Proofs.YtlgafpjmifacmaaDoor
