/- Slices of DiskOp: their copies and sizes. -/
import Derived.Test.YthghibopnnjboaaZd08
import Derived.Deep.RegionHeld3
namespace Go.Proofs.Ythghibopnnjboaa
set_option linter.unusedVariables false
set_option linter.unusedSimpArgs false
open Go.RowKit

theorem infoDL : (Try.prog.info? 63).map (·.size) = some 3 := by kernel_rfl
theorem infoDz : (Try.prog.info? 30).map (fun i => (i.zero, i.size, i.bytes)) = some (some (.agg #[.int .i64 0, .int .i64 0, .slice none 0 0]), 3, 40) := by kernel_rfl
theorem oneDop (b b1 : Int) (a : Option Addr) (n c : Nat) : (#[Value.int .i64 b, Value.int .i64 b1, Value.slice a n c] : Array Value).all (·.oneCell') = true := by simp [Value.oneCell']
set_option maxRecDepth 100000 in
theorem toDiskOp_any (b b1 : Int) (u : Value) (zs : List Int) (w : World) (h : Rd .u8 w u zs) (hn : zs.length ≤ 140737488355328) :
    Calls Try.prog 36 #[.agg #[.int .i64 b, .int .i64 b1, u]] w fun e w' => ∃ u', e = .returned (.agg #[.int .i64 b, .int .i64 b1, u']) ∧ w'.ownsRow w.heap.size 5 1 u' zs.length (zs.map (Value.int .u8)) ∧ Below w.heap.size w w' := by
  obtain ⟨a, cap, rfl⟩ := rd_shape h
  have hb0 : Below w.heap.size w ((w.alloc (.cells #[.int .i64 b, .int .i64 b1, .slice a zs.length cap] 63)).alloc (.cells #[.int .i64 0, .int .i64 0, .slice none 0 0] 30)) := ((Below.refl _ _).alloc (Nat.le_refl _) _).alloc (by simp) _
  have HB := hide (show Below w.heap.size w (((w.alloc (.cells #[.int .i64 b, .int .i64 b1, .slice a zs.length cap] 63)).alloc (.cells #[.int .i64 0, .int .i64 0, .slice none 0 0] 30)).alloc (.cells #[.int .i64 b, .int .i64 b1, .slice none 0 0] 30)) from hb0.alloc (by simp; omega) _)
  have HR := hide h
  clear h hb0
  go_enter Try.func36, Try.ntmps36
  go_wp2_with fail
  have HW := hide (And.intro (HR.out.below HB.out) HB.out)
  have HK := hide (show Blk (((w.alloc (.cells #[.int .i64 b, .int .i64 b1, .slice a zs.length cap] 63)).alloc (.cells #[.int .i64 0, .int .i64 0, .slice none 0 0] 30)).alloc (.cells #[.int .i64 b, .int .i64 b1, .slice none 0 0] 30)) (w.heap.size + 1 + 1) #[.int .i64 b, .int .i64 b1, .slice none 0 0] 30 ∧ Blk (((w.alloc (.cells #[.int .i64 b, .int .i64 b1, .slice a zs.length cap] 63)).alloc (.cells #[.int .i64 0, .int .i64 0, .slice none 0 0] 30)).alloc (.cells #[.int .i64 b, .int .i64 b1, .slice none 0 0] 30)) (w.heap.size + 1) #[.int .i64 0, .int .i64 0, .slice none 0 0] 30 from by
    have k1 := Blk.new (w.alloc (.cells #[.int .i64 b, .int .i64 b1, .slice a zs.length cap] 63)) #[.int .i64 0, .int .i64 0, .slice none 0 0] 30
    have k2 := Blk.new ((w.alloc (.cells #[.int .i64 b, .int .i64 b1, .slice a zs.length cap] 63)).alloc (.cells #[.int .i64 0, .int .i64 0, .slice none 0 0] 30)) #[.int .i64 b, .int .i64 b1, .slice none 0 0] 30
    rw [World.size_alloc] at k1
    rw [World.size_alloc, World.size_alloc] at k2
    exact ⟨k2, k1.alloc _⟩)
  refine (toByteS_any _ zs _ HW.out.1 hn).mono ?_
  rintro e w1 ⟨v1, rfl, o1, b1⟩
  have K1 := hide (And.intro (HK.out.1.below b1 HK.out.1.lt) (HK.out.2.below b1 HK.out.2.lt))
  have B1 := hide (HW.out.2.trans (b1.mono HW.out.2.size))
  obtain ⟨a1, c1, rfl⟩ := own_shape o1
  have cc := (K1.out.1.cell 2).trans (show _ = some (Value.slice none 0 0) from rfl)
  have ff := K1.out.1.frozen 2
  have HS := hide (show w1.ownsRow w.heap.size 5 1 (.slice a1 zs.length c1) zs.length (zs.map (Value.int .u8)) from own_mono o1 HW.out.2.size)
  have hw1 : w.heap.size + 1 + 1 < w1.heap.size := K1.out.1.lt
  have hne : ∀ k, (Value.slice a1 zs.length c1).ownBlock = some k → w.heap.size + 1 + 1 < k := fun k hk => by
    have := (o1.lt k hk).1
    simp [World.setCell] at this
    omega
  have HN := hide hne
  clear o1 b1 hne HB HK HW
  have K2 := hide (show Blk (w1.setCell ⟨w.heap.size + 1 + 1, 2, none⟩ (.slice a1 zs.length c1)) (w.heap.size + 1 + 1) #[.int .i64 b, .int .i64 b1, .slice a1 zs.length c1] 30 ∧ Blk (w1.setCell ⟨w.heap.size + 1 + 1, 2, none⟩ (.slice a1 zs.length c1)) (w.heap.size + 1) #[.int .i64 0, .int .i64 0, .slice none 0 0] 30 from ⟨K1.out.1.set 2 _, K1.out.2.other ⟨w.heap.size + 1 + 1, 2, none⟩ _ (by show w.heap.size + 1 ≠ w.heap.size + 1 + 1; omega)⟩)
  have B2 := hide (B1.out.setCell (p := ⟨w.heap.size + 1 + 1, 2, none⟩) (by show w.heap.size ≤ w.heap.size + 1 + 1; omega) (.slice a1 zs.length c1))
  have S2 := hide (HS.out.kept (w' := w1.setCell ⟨w.heap.size + 1 + 1, 2, none⟩ (.slice a1 zs.length c1)) (row := some (w.heap.size + 1 + 1)) ⟨rfl, rfl, rfl, by simp [World.setCell], fun k hk hne => Below.heap_setCell w1 ⟨w.heap.size + 1 + 1, 2, none⟩ _ k (fun e => hne (by rw [e]))⟩ (by
    cases hv : (Value.slice a1 zs.length c1).ownBlock with
    | none => exact .inl rfl
    | some k => exact .inr (fun e => by have := HN.out k hv; have := Option.some.inj e; omega)))
  go_wp2_with (first | (refine wpList_load_row rfl 30 _ rfl (w.heap.size + 1 + 1) rfl 30 #[.int .i64 b, .int .i64 b1, .slice a1 zs.length c1] (0, 0) _ K2.out.1 Try.underlying30 rfl infoD3 ?_) | (refine wpList_store_row rfl 30 _ _ rfl (w.heap.size + 1) #[.int .i64 b, .int .i64 b1, .slice a1 zs.length c1] rfl rfl 30 _ K2.out.2 infoD3 rfl (oneDop _ _ _ _ _) ?_) | fail)
  have B3 := hide (below_setRow B2.out (show w.heap.size ≤ w.heap.size + 1 by omega) #[.int .i64 b, .int .i64 b1, .slice a1 zs.length c1])
  have S3 := hide (S2.out.kept (w' := (w1.setCell ⟨w.heap.size + 1 + 1, 2, none⟩ (.slice a1 zs.length c1)).setRow (w.heap.size + 1) #[.int .i64 b, .int .i64 b1, .slice a1 zs.length c1]) (row := some (w.heap.size + 1)) (setRow_grown _ _ _) (by
    cases hv : (Value.slice a1 zs.length c1).ownBlock with
    | none => exact .inl rfl
    | some k => exact .inr (fun e => by have := HN.out k hv; have := Option.some.inj e; omega)))
  refine bodyPost_ret (v := .agg #[.int .i64 b, .int .i64 b1, .slice a1 zs.length c1]) ?_ rfl ⟨_, rfl, S3.out, B3.out⟩
  exact results_cell_row rfl _ _ (w.heap.size + 1) 30 #[.int .i64 b, .int .i64 b1, .slice a1 zs.length c1] (0, 0) _ rfl (K2.out.2.row _) Try.underlying30 rfl infoD3
theorem made_dop (n : Nat) : (madeCells (Value.agg #[.int .i64 0, .int .i64 0, .slice none 0 0]).cells (n * 3)).toList = cellsN (List.replicate n (.slice none 0 0)) ((List.replicate n ((0 : Int), (0 : Int), ([] : List Int))).map neD) := by
  apply List.ext_getElem?
  intro j
  by_cases hj : j < n * 3
  · have h1 := cellsN_get 2 (List.replicate n (.slice none 0 0)) ((List.replicate n ((0 : Int), (0 : Int), ([] : List Int))).map neD) (by simp) (neD_pre _) (j / 3) (j % 3) (.slice none 0 0) (neD (0, 0, [])) (by rw [List.getElem?_replicate, if_pos (by omega)]) (by rw [List.getElem?_map, List.getElem?_replicate, if_pos (by omega)]; rfl) (by omega)
    rw [show j / 3 * (2 + 1) + j % 3 = j by omega] at h1
    rw [h1]
    rcases (by omega : j % 3 = 0 ∨ j % 3 = 1 ∨ j % 3 = 2) with h | h | h
    · rw [h]; simp [madeCells, hj, h, Value.cells, neD]
    · rw [h]; simp [madeCells, hj, h, Value.cells, neD]
    · rw [h]; simp [madeCells, hj, h, Value.cells, neD]
  · rw [List.getElem?_eq_none (l := cellsN _ _) (by rw [cellsN_len 2 _ _ (by simp) (neD_pre _)]; simp; omega)]
    simp [madeCells, hj]
theorem fill_dop (P : List (Int × Int × List Int)) (k : Nat) (p : Int × Int × List Int) (hp : P[k]? = some p) : (P.take k ++ List.replicate (P.length - k) ((0 : Int), (0 : Int), ([] : List Int))).set k p = P.take (k + 1) ++ List.replicate (P.length - (k + 1)) (0, 0, []) := by
  have hk : k < P.length := (List.getElem?_eq_some_iff.1 hp).1
  have e : P.take (k + 1) = P.take k ++ [p] := by rw [List.take_add_one, hp]; rfl
  rw [e, show P.length - k = (P.length - (k + 1)) + 1 by omega, List.replicate_succ, List.set_append_right _ _ (by simp; omega)]
  have : k - (P.take k).length = 0 := by simp; omega
  rw [this]
  simp
theorem OwnN.zerosD {w : World} {base n : Nat} {v : Value} (h : w.ownsRow base 30 3 v n (cellsN (List.replicate n (.slice none 0 0)) ((List.replicate n ((0 : Int), (0 : Int), ([] : List Int))).map neD))) : OwnN w base 30 2 v ((List.replicate n ((0 : Int), (0 : Int), ([] : List Int))).map neD) (List.replicate n (.slice none 0 0)) := by
  refine ⟨by simp, neD_pre _, by simpa using h, fun i u l hu hl => ?_, fun i j u u' b hu _ hb _ => ?_⟩
  · rw [List.getElem?_replicate] at hu
    split at hu
    · cases hu
      rw [List.getElem?_map, List.getElem?_replicate] at hl
      split at hl
      · cases hl
        exact ⟨rfl, .inl ⟨rfl, rfl⟩⟩
      · contradiction
    · cases hu
  · rw [List.getElem?_replicate] at hu
    split at hu
    · cases hu
      cases hb
    · cases hu

set_option maxRecDepth 100000 in
set_option maxHeartbeats 2000000 in
theorem toDiskOpS_any (v : Value) (P : List (Int × Int × List Int)) (us : List Value) (w : World) (h : RdN w 2 v (P.map neD) us) (hn : P.length ≤ 1048576) (hb : ∀ p ∈ P, p.2.2.length ≤ 1048576) :
    Calls Try.prog 16 #[v] w fun e w' => ∃ v' vs, e = .returned v' ∧ OwnN w' w.heap.size 30 2 v' (P.map neD) vs ∧ Below w.heap.size w w' := by
  obtain ⟨i0, hi, hz0, hz1, hz2⟩ := info_parts infoDz
  obtain ⟨a, cap, rfl⟩ : ∃ a cap, v = .slice a P.length cap := by obtain ⟨a, cap, e, _⟩ := h.row; exact ⟨a, cap, by simpa using e⟩
  have hm : P.length ≤ maxLen := by unfold maxLen; omega
  have HR := hide (show RdN w 2 (.slice a (P.map neD).length cap) (P.map neD) us from by simpa using h)
  have HB := hide hb
  clear h hb
  go_enter Try.func16, Try.ntmps16
  go_wp2_with (first | (refine wpList_make_full _ rfl (.tmp 6) (.tmp 6) 26 rfl w.heap.size 30 i0 (.agg #[.int .i64 0, .int .i64 0, .slice none 0 0]) 3 Try.underlying26 hi hz0 hz1 .i64 .i64 P.length P.length P.length rfl rfl rfl rfl (by rw [hz2]; omega) hm (Nat.le_refl _) ?_; intro w1 hown hgrow; rw [made_dop] at hown) | fail)
  have H1 := hide (show OwnN w1 w.heap.size 30 2 (.slice (some ⟨w.heap.size, 0, none⟩) P.length P.length) ((List.replicate P.length ((0 : Int), (0 : Int), ([] : List Int))).map neD) (List.replicate P.length (.slice none 0 0)) ∧ Below w.heap.size w w1 from
    ⟨OwnN.zerosD hown, (Below.refl _ _).grown hgrow (Nat.le_refl _) (fun k h => by cases h)⟩)
  clear hgrow hown
  go_loopw [4] (fun i wr => ∃ (k : Nat) (vs : List Value), k ≤ P.length ∧ i = .int .i64 k ∧ OwnN wr w.heap.size 30 2 (.slice (some ⟨w.heap.size, 0, none⟩) P.length P.length) ((P.take k ++ List.replicate (P.length - k) ((0 : Int), (0 : Int), ([] : List Int))).map neD) vs ∧ Below w.heap.size w wr) (fun i _ => P.length - (intOf i).toNat)
  case atStart => exact ⟨0, _, Nat.zero_le _, rfl, by simpa using H1.out.1, H1.out.2⟩
  case round =>
    clear H1
    obtain ⟨k, vs, hk, rfl, ho, hbel⟩ := hrel
    have HO := hide (And.intro ho hbel)
    clear ho hbel
    by_cases hlt : k < P.length
    · obtain ⟨p, hp⟩ : ∃ p, P[k]? = some p := ⟨_, List.getElem?_eq_getElem hlt⟩
      obtain ⟨bq, b1, zs⟩ := p
      obtain ⟨b0, off, u, e0, hb0, hu, hrd, hrg⟩ := (HR.out.below HO.out.2).at (i := k) (l := neD (bq, b1, zs)) (by rw [List.getElem?_map, hp]; rfl)
      subst e0
      have hzs := HB.out (bq, b1, zs) (List.mem_of_getElem? hp)
      simp only at hzs
      have HP := hide hp
      have HRg := hide (show wr.rangeAt b0 (off + k * 3) [.int .i64 bq, .int .i64 b1, u] from hrg)
      have HRd := hide (show Rd .u8 wr u zs from hrd)
      clear hrg hrd hu hp
      go_wp2_with (first | (refine wpList_load_mid rfl 63 _ rfl b0 (off + k * 3) rfl [.int .i64 bq, .int .i64 b1, u] _ HRg.out Try.underlying63 rfl infoDL ?_) | fail)
      refine (toDiskOp_any bq b1 u zs _ HRd.out (by omega)).mono ?_
      rintro e w2 ⟨u', rfl, o2, b2⟩
      obtain ⟨a2, c2, rfl⟩ := own_shape o2
      have O2 := hide (HO.out.1.below b2)
      have B2 := hide (HO.out.2.trans (b2.mono HO.out.2.size))
      have hfr : ∀ (j : Nat) (x : Value) (q : Nat), vs[j]? = some x → x.ownBlock = some q → (Value.slice a2 zs.length c2).ownBlock ≠ some q := fun j x q hx hq e => by
        have h1 := (o2.lt q e).1
        have hjl : j < vs.length := (List.getElem?_eq_some_iff.1 hx).1
        rw [HO.out.1.len] at hjl
        have h2 := ((HO.out.1.dat j x _ hx (List.getElem?_eq_getElem hjl)).lt q hq).2
        omega
      have hQk : ((P.take k ++ List.replicate (P.length - k) ((0 : Int), (0 : Int), ([] : List Int))).map neD)[k]? = some (neD (0, 0, [])) := by
        rw [List.getElem?_map, List.getElem?_append_right (by simp; omega), List.getElem?_replicate, if_pos (by simp; omega)]
        rfl
      have h3 := O2.out.field (by decide) k 0 (neD (0, 0, [])) (.int .i64 bq) hQk (by omega) (g := w.heap.size) rfl
      have h3b := h3.field (by decide) k 1 (l := ([.int .i64 bq, .int .i64 0], [])) (.int .i64 b1) (by rw [List.getElem?_set_self (List.getElem?_eq_some_iff.1 hQk).1]; rfl) (by omega) (g := w.heap.size) rfl
      have gA : w2.grownBy ((w2.setCell ⟨w.heap.size, k * (2 + 1) + 0, none⟩ (.int .i64 bq)).setCell ⟨w.heap.size, k * (2 + 1) + 1, none⟩ (.int .i64 b1)) (some w.heap.size) := ⟨rfl, rfl, rfl, by simp [World.setCell], fun q hq hne => (Below.heap_setCell _ ⟨w.heap.size, k * (2 + 1) + 1, none⟩ _ q (fun e => hne (by rw [e]))).trans (Below.heap_setCell w2 ⟨w.heap.size, k * (2 + 1) + 0, none⟩ _ q (fun e => hne (by rw [e])))⟩
      rw [List.set_set] at h3b
      have h4 := h3b.last (by decide) k (l := ([.int .i64 bq, .int .i64 b1], [])) (.slice a2 zs.length c2) zs (by rw [List.getElem?_set_self (List.getElem?_eq_some_iff.1 hQk).1]; rfl) (g := w.heap.size) rfl ((own_mono o2 HO.out.2.size).kept gA (own_apart o2 O2.out.row (by decide))) hfr
      rw [List.set_set] at h4
      have h5 : ((P.take k ++ List.replicate (P.length - k) ((0 : Int), (0 : Int), ([] : List Int))).map neD).set k ([.int .i64 bq, .int .i64 b1], zs) = (P.take (k + 1) ++ List.replicate (P.length - (k + 1)) ((0 : Int), (0 : Int), ([] : List Int))).map neD := by
        rw [← fill_dop P k (bq, b1, zs) HP.out, List.map_set]
        rfl
      rw [h5] at h4
      have H4 := hide (show OwnN (w2.setCells w.heap.size (k * 3) [.int .i64 bq, .int .i64 b1, .slice a2 zs.length c2]) w.heap.size 30 2 (.slice (some ⟨w.heap.size, 0, none⟩) P.length P.length) ((P.take (k + 1) ++ List.replicate (P.length - (k + 1)) ((0 : Int), (0 : Int), ([] : List Int))).map neD) (vs.set k (.slice a2 zs.length c2)) ∧ Below w.heap.size w (w2.setCells w.heap.size (k * 3) [.int .i64 bq, .int .i64 b1, .slice a2 zs.length c2]) from ⟨h4, below_cells (Nat.le_refl _) _ _ B2.out⟩)
      have HT := hide (there_row (show w2.ownsRow w.heap.size 30 3 (.slice (some ⟨w.heap.size, 0, none⟩) P.length P.length) P.length _ from by
        have := O2.out.row
        rw [show ((P.take k ++ List.replicate (P.length - k) ((0 : Int), (0 : Int), ([] : List Int))).map neD).length = P.length by simp; omega] at this
        exact this) (o := k * 3) (m := 3) (by omega))
      clear h3 h3b gA h4 h5 hfr hQk o2 b2 O2 B2 HO
      go_wp2_with (first | (refine wpList_store_mid rfl 30 _ _ rfl w.heap.size (k * 3) #[.int .i64 bq, .int .i64 b1, .slice a2 zs.length c2] rfl rfl HT.out infoD3 (oneDop _ _ _ _ _) ?_) | fail)
      go_roundw
      case rel => exact ⟨k + 1, _, by omega, by go_num, H4.out.1, H4.out.2⟩
      case measure => simp [intOf]; omega
    · obtain rfl : k = P.length := by omega
      have HF := hide (show OwnN wr w.heap.size 30 2 (.slice (some ⟨w.heap.size, 0, none⟩) P.length P.length) (P.map neD) vs from by
        have := HO.out.1
        rw [Nat.sub_self, List.replicate_zero, List.append_nil, List.take_length] at this
        exact this)
      go_wp2
      go_ret
      exact ⟨_, _, rfl, HF.out, HO.out.2⟩
theorem szByteN_any (v : Value) (zs : List Int) (l : Int) (w : World) (h : Rd .u8 w v zs) (h0 : 0 ≤ l) (h1 : l ≤ 1048576) :
    Calls Try.prog 49 #[v, .int .i64 l] w fun e w' => e = .returned (.int .i64 (if l < (zs.length : Int) then -1 else l - zs.length)) ∧ w' = w := by
  have hm := h.len
  unfold maxLen at hm
  obtain ⟨a, cap, rfl⟩ := rd_shape h
  clear h
  by_cases hb : l < (zs.length : Int)
  · rw [if_pos hb]
    go_enter Try.func49, Try.ntmps49
    go_wp2
    go_ret
    exact ⟨rfl, rfl⟩
  · rw [if_neg hb]
    go_enter Try.func49, Try.ntmps49
    go_wp2
    go_ret
    exact ⟨rfl, rfl⟩
set_option maxRecDepth 100000 in
theorem szDiskOp_any (b b1 : Int) (u : Value) (zs : List Int) (l : Int) (w : World) (h : Rd .u8 w u zs) (h0 : 0 ≤ l) (h1 : l ≤ 1048576) :
    Calls Try.prog 29 #[.agg #[.int .i64 b, .int .i64 b1, u], .int .i64 l] w fun e w' => e = .returned (.int .i64 (if l < (zs.length : Int) then -1 else l - zs.length)) ∧ Below w.heap.size w w' := by
  obtain ⟨a, cap, rfl⟩ := rd_shape h
  have HR := hide h
  have HB := hide (show ∀ o, Below w.heap.size w (w.alloc o) from fun o => (Below.refl _ _).alloc (Nat.le_refl _) o)
  clear h
  by_cases hb : l < (zs.length : Int)
  · have HE := hide (show (if l < (zs.length : Int) then (-1 : Int) else l - zs.length) = -1 from if_pos hb)
    rw [HE.out]
    go_enter Try.func29, Try.ntmps29
    go_wp2_with fail
    refine (szByteN_any _ zs l _ (HR.out.below (HB.out _)) h0 h1).mono ?_
    rintro e w1 ⟨rfl, hw⟩
    rw [hw, HE.out]
    clear hw w1
    go_wp2
    go_ret
    exact ⟨rfl, HB.out _⟩
  · have HE := hide (show (if l < (zs.length : Int) then (-1 : Int) else l - zs.length) = l - zs.length from if_neg hb)
    rw [HE.out]
    have hq : decide (l - (zs.length : Int) < 0) = false := by simp; omega
    go_enter Try.func29, Try.ntmps29
    go_wp2_with fail
    refine (szByteN_any _ zs l _ (HR.out.below (HB.out _)) h0 h1).mono ?_
    rintro e w1 ⟨rfl, hw⟩
    rw [hw, HE.out]
    clear hw w1
    go_wp2
    go_ret
    exact ⟨rfl, HB.out _⟩
set_option maxRecDepth 100000 in
set_option maxHeartbeats 1000000 in
theorem szDiskOpS_any (v : Value) (Q : List (Int × Int × List Int)) (us : List Value) (w : World) (h : RdN w 2 v (Q.map neD) us) :
    Calls Try.prog 13 #[v, .int .i64 1048576] w fun e w' => ∃ r : Int, e = .returned (.int .i64 r) ∧ (0 ≤ r → r ≤ 1048576 ∧ Q.length ≤ 1048576 ∧ ∀ p ∈ Q, p.2.2.length ≤ 1048576) ∧ Below w.heap.size w w' := by
  obtain ⟨a, cap, rfl⟩ : ∃ a cap, v = .slice a Q.length cap := by obtain ⟨a, cap, e, _⟩ := h.row; exact ⟨a, cap, by simpa using e⟩
  have hm : Q.length ≤ 9223372036854775807 := by obtain ⟨a, cap, _, _, g1, g2⟩ := h.row; unfold maxLen at g2; simp at g1; omega
  have HQ := hide (show RdN w 2 (.slice a (Q.map neD).length cap) (Q.map neD) us from by simpa using h)
  clear h
  by_cases hbig : (1048576 : Int) < (Q.length : Int)
  · go_enter Try.func13, Try.ntmps13
    go_wp2
    go_ret
    exact ⟨-1, rfl, fun h => by omega, Below.refl _ _⟩
  · have hq : Q.length ≤ 1048576 := by omega
    go_enter Try.func13, Try.ntmps13
    go_wp2
    go_loopw [1, 5] (fun x i wr => ∃ (k : Nat) (l : Int), k ≤ Q.length ∧ i = .int .i64 (k : Int) ∧ x = .int .i64 l ∧ 0 ≤ l ∧ l ≤ 1048576 ∧ (∀ p ∈ Q.take k, p.2.2.length ≤ 1048576) ∧ Below w.heap.size w wr) (fun _ i _ => Q.length - (intOf i).toNat)
    case atStart => exact ⟨0, _, Nat.zero_le _, rfl, rfl, by omega, by omega, fun p h => by simp at h, Below.refl _ _⟩
    case round =>
      obtain ⟨k, l, hk, rfl, rfl, hl0, hl1, hp, hb⟩ := hrel
      have HP := hide hp
      have HB := hide hb
      clear hp hb
      by_cases hlt : k < Q.length
      · obtain ⟨p, hp⟩ : ∃ p, Q[k]? = some p := ⟨_, List.getElem?_eq_getElem hlt⟩
        obtain ⟨x0, x1, zs⟩ := p
        obtain ⟨b, off, u, e0, hb0, hu, hrd, hrg⟩ := (HQ.out.below HB.out).at (i := k) (l := neD (x0, x1, zs)) (by rw [List.getElem?_map, hp]; rfl)
        subst e0
        have HRg := hide (show wr.rangeAt b (off + k * 3) [.int .i64 x0, .int .i64 x1, u] from hrg)
        have HRd := hide (show Rd .u8 wr u zs from hrd)
        have HPk := hide hp
        clear hrg hrd hu hp
        go_wp2_with (first | (refine wpList_load_mid rfl 63 _ rfl b (off + k * 3) rfl [.int .i64 x0, .int .i64 x1, u] _ HRg.out Try.underlying63 rfl infoDL ?_) | fail)
        refine (szDiskOp_any x0 x1 u zs l _ HRd.out hl0 hl1).mono ?_
        rintro e w2 ⟨rfl, b2⟩
        have B2 := hide (HB.out.trans (b2.mono HB.out.size))
        clear b2
        by_cases hzs : l < (zs.length : Int)
        · rw [if_pos hzs]
          go_wp2
          go_ret
          first
          | exact ⟨-1, rfl, fun h => by omega, B2.out⟩
          | exact ⟨_, rfl, fun h => by omega, B2.out⟩
        · rw [if_neg hzs]
          have hq2 : decide (l - (zs.length : Int) < 0) = false := by simp; omega
          go_wp2
          go_roundw
          case rel =>
            refine ⟨k + 1, _, by omega, by go_num, rfl, by omega, by omega, fun p hp => ?_, B2.out⟩
            rw [List.take_add_one, HPk.out, List.mem_append] at hp
            rcases hp with hp | hp
            · exact HP.out p hp
            · simp at hp
              subst hp
              simp
              omega
          case measure => simp [intOf]; omega
      · obtain rfl : k = Q.length := by omega
        have HP2 := hide (show ∀ p ∈ Q, p.2.2.length ≤ 1048576 from fun p hp => HP.out p (by rw [List.take_length]; exact hp))
        go_wp2
        go_ret
        exact ⟨l, rfl, fun _ => ⟨hl1, hq, HP2.out⟩, HB.out⟩
end Go.Proofs.Ythghibopnnjboaa
