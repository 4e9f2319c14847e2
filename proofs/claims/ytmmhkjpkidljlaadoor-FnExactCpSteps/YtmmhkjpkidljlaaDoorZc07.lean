/- Slices of Put: copies (toPut, toPutS), two that are the same held against each other (eqPut, eqPutS). A copy of a slice of Put: toPutS. -/
import Derived.Test.YtmmhkjpkidljlaaDoorZc06
import Derived.Test.YtmmhkjpkidljlaaDoorZc04
import Derived.Deep.MidRow
import Derived.Deep.RegionHeld3
namespace Go.Proofs.YtmmhkjpkidljlaaDoor
set_option linter.unusedVariables false
set_option linter.unusedSimpArgs false
open Go.RowKit

/-- A Put as an element. -/
def neP (p : Int × List Int) : NE := ([.int .i64 p.1], p.2)
theorem neP_pre (P : List (Int × List Int)) : ∀ l ∈ P.map neP, l.1.length = 1 := by
  intro l hl
  rw [List.mem_map] at hl
  obtain ⟨p, _, rfl⟩ := hl
  rfl
theorem infoP2 : (Tryd.prog.info? 52).map (·.size) = some 2 := by kernel_rfl
theorem infoPL : (Tryd.prog.info? 69).map (·.size) = some 2 := by kernel_rfl
theorem infoPz : (Tryd.prog.info? 52).map (fun i => (i.zero, i.size, i.bytes)) = some (some (.agg #[.int .i64 0, .slice none 0 0]), 2, 32) := by kernel_rfl

theorem onePut (b : Int) (a : Option Addr) (n c : Nat) : (#[Value.int .i64 b, Value.slice a n c] : Array Value).all (·.oneCell') = true :=
  all_oneCell_toArray (cs := [Value.int .i64 b, Value.slice a n c]) (by intro v hv; simp at hv; rcases hv with rfl | rfl <;> rfl)
theorem setRow_grown (w : World) (g : Nat) (cs : Array Value) : w.grownBy (w.setRow g cs) (some g) := by
  refine ⟨rfl, rfl, rfl, by simp [World.setRow], fun k hk hne => ?_⟩
  simp only [World.setRow, Array.getElem?_modify]
  rw [if_neg (fun e => hne (by rw [e]))]
set_option maxRecDepth 100000 in
theorem toPut_any (b : Int) (u : Value) (zs : List Int) (w : World) (h : Rd .u8 w u zs) (hn : zs.length ≤ 140737488355328) :
    Calls Tryd.prog 33 #[.agg #[.int .i64 b, u]] w fun e w' => ∃ u', e = .returned (.agg #[.int .i64 b, u']) ∧ w'.ownsRow w.heap.size 5 1 u' zs.length (zs.map (Value.int .u8)) ∧ Below w.heap.size w w' := by
  obtain ⟨a, cap, rfl⟩ := rd_shape h
  have hb0 : Below w.heap.size w ((w.alloc (.cells #[.int .i64 b, .slice a zs.length cap] 69)).alloc (.cells #[.int .i64 0, .slice none 0 0] 52)) := ((Below.refl _ _).alloc (Nat.le_refl _) _).alloc (by simp) _
  have HB := hide (show Below w.heap.size w (((w.alloc (.cells #[.int .i64 b, .slice a zs.length cap] 69)).alloc (.cells #[.int .i64 0, .slice none 0 0] 52)).alloc (.cells #[.int .i64 b, .slice none 0 0] 52)) from hb0.alloc (by simp; omega) _)
  have HR := hide h
  clear h hb0
  go_enter Tryd.func33, Tryd.ntmps33
  go_wp2_with fail
  have HW := hide (And.intro (HR.out.below HB.out) HB.out)
  have HK := hide (show Blk (((w.alloc (.cells #[.int .i64 b, .slice a zs.length cap] 69)).alloc (.cells #[.int .i64 0, .slice none 0 0] 52)).alloc (.cells #[.int .i64 b, .slice none 0 0] 52)) (w.heap.size + 1 + 1) #[.int .i64 b, .slice none 0 0] 52 ∧ Blk (((w.alloc (.cells #[.int .i64 b, .slice a zs.length cap] 69)).alloc (.cells #[.int .i64 0, .slice none 0 0] 52)).alloc (.cells #[.int .i64 b, .slice none 0 0] 52)) (w.heap.size + 1) #[.int .i64 0, .slice none 0 0] 52 from by
    have k1 := Blk.new (w.alloc (.cells #[.int .i64 b, .slice a zs.length cap] 69)) #[.int .i64 0, .slice none 0 0] 52
    have k2 := Blk.new ((w.alloc (.cells #[.int .i64 b, .slice a zs.length cap] 69)).alloc (.cells #[.int .i64 0, .slice none 0 0] 52)) #[.int .i64 b, .slice none 0 0] 52
    rw [World.size_alloc] at k1
    rw [World.size_alloc, World.size_alloc] at k2
    exact ⟨k2, k1.alloc _⟩)
  refine (toByteS_any _ zs _ HW.out.1 hn).mono ?_
  rintro e w1 ⟨v1, rfl, o1, b1⟩
  have K1 := hide (And.intro (HK.out.1.below b1 HK.out.1.lt) (HK.out.2.below b1 HK.out.2.lt))
  have B1 := hide (HW.out.2.trans (b1.mono HW.out.2.size))
  obtain ⟨a1, c1, rfl⟩ := own_shape o1
  have cc := (K1.out.1.cell 1).trans (show _ = some (Value.slice none 0 0) from rfl)
  have ff := K1.out.1.frozen 1
  have HS := hide (show w1.ownsRow w.heap.size 5 1 (.slice a1 zs.length c1) zs.length (zs.map (Value.int .u8)) from own_mono o1 HW.out.2.size)
  have hw1 : w.heap.size + 1 + 1 < w1.heap.size := K1.out.1.lt
  have hne : ∀ k, (Value.slice a1 zs.length c1).ownBlock = some k → w.heap.size + 1 + 1 < k := fun k hk => by
    have := (o1.lt k hk).1
    simp [World.setCell] at this
    omega
  have HN := hide hne
  clear o1 b1 hne HB HK HW
  have K2 := hide (show Blk (w1.setCell ⟨w.heap.size + 1 + 1, 1, none⟩ (.slice a1 zs.length c1)) (w.heap.size + 1 + 1) #[.int .i64 b, .slice a1 zs.length c1] 52 ∧ Blk (w1.setCell ⟨w.heap.size + 1 + 1, 1, none⟩ (.slice a1 zs.length c1)) (w.heap.size + 1) #[.int .i64 0, .slice none 0 0] 52 from ⟨K1.out.1.set 1 _, K1.out.2.other ⟨w.heap.size + 1 + 1, 1, none⟩ _ (by show w.heap.size + 1 ≠ w.heap.size + 1 + 1; omega)⟩)
  have B2 := hide (B1.out.setCell (p := ⟨w.heap.size + 1 + 1, 1, none⟩) (by show w.heap.size ≤ w.heap.size + 1 + 1; omega) (.slice a1 zs.length c1))
  have S2 := hide (HS.out.kept (w' := w1.setCell ⟨w.heap.size + 1 + 1, 1, none⟩ (.slice a1 zs.length c1)) (row := some (w.heap.size + 1 + 1)) ⟨rfl, rfl, rfl, by simp [World.setCell], fun k hk hne => Below.heap_setCell w1 ⟨w.heap.size + 1 + 1, 1, none⟩ _ k (fun e => hne (by rw [e]))⟩ (by
    cases hv : (Value.slice a1 zs.length c1).ownBlock with
    | none => exact .inl rfl
    | some k => exact .inr (fun e => by have := HN.out k hv; have := Option.some.inj e; omega)))
  go_wp2_with (first | (refine wpList_load_row rfl 52 _ rfl (w.heap.size + 1 + 1) rfl 52 #[.int .i64 b, .slice a1 zs.length c1] (0, 0) _ K2.out.1 Tryd.underlying52 rfl infoP2 ?_) | (refine wpList_store_row rfl 52 _ _ rfl (w.heap.size + 1) #[.int .i64 b, .slice a1 zs.length c1] rfl rfl 52 _ K2.out.2 infoP2 rfl (onePut _ _ _ _) ?_) | fail)
  have B3 := hide (below_setRow B2.out (show w.heap.size ≤ w.heap.size + 1 by omega) #[.int .i64 b, .slice a1 zs.length c1])
  have S3 := hide (S2.out.kept (w' := (w1.setCell ⟨w.heap.size + 1 + 1, 1, none⟩ (.slice a1 zs.length c1)).setRow (w.heap.size + 1) #[.int .i64 b, .slice a1 zs.length c1]) (row := some (w.heap.size + 1)) (setRow_grown _ _ _) (by
    cases hv : (Value.slice a1 zs.length c1).ownBlock with
    | none => exact .inl rfl
    | some k => exact .inr (fun e => by have := HN.out k hv; have := Option.some.inj e; omega)))
  refine bodyPost_ret (v := .agg #[.int .i64 b, .slice a1 zs.length c1]) ?_ rfl ⟨_, rfl, S3.out, B3.out⟩
  exact results_cell_row rfl _ _ (w.heap.size + 1) 52 #[.int .i64 b, .slice a1 zs.length c1] (0, 0) _ rfl (K2.out.2.row _) Tryd.underlying52 rfl infoP2
end Go.Proofs.YtmmhkjpkidljlaaDoor

namespace Go.Proofs.YtmmhkjpkidljlaaDoor
set_option linter.unusedVariables false
set_option linter.unusedSimpArgs false
open Go.RowKit

theorem there_row {w : World} {base : Nat} {e : TypeId} {g n cap sz : Nat} {xs : List Value} (h : w.ownsRow base e sz (.slice (some ⟨g, 0, none⟩) n cap) n xs) {o m : Nat} (hk : o + m ≤ n * sz) : w.there g o m := by
  rcases h.2 with ⟨e, _⟩ | ⟨g', cap', cur, e, hb, hc, hn, hm, hs, ht⟩
  · cases e
  · injection e with e1 e2 e3
    injection e1 with e1
    injection e1 with e1 e4
    subst e1
    intro j hj
    have hlt : o + j < cur.size := by
      have : n * sz ≤ cap' * sz := Nat.mul_le_mul_right _ hn
      rw [hs]; omega
    have hB : Blk w g cur _ := hc
    refine ⟨?_, hB.frozen _⟩
    rw [hB.cell (o + j), Array.getElem?_eq_getElem hlt]
    rfl
theorem made_put (n : Nat) : (madeCells (Value.agg #[.int .i64 0, .slice none 0 0]).cells (n * 2)).toList = cellsN (List.replicate n (.slice none 0 0)) ((List.replicate n ((0 : Int), ([] : List Int))).map neP) := by
  apply List.ext_getElem?
  intro j
  by_cases hj : j < n * 2
  · have h1 := cellsN_get 1 (List.replicate n (.slice none 0 0)) ((List.replicate n ((0 : Int), ([] : List Int))).map neP) (by simp) (neP_pre _) (j / 2) (j % 2) (.slice none 0 0) (neP (0, [])) (by rw [List.getElem?_replicate, if_pos (by omega)]) (by rw [List.getElem?_map, List.getElem?_replicate, if_pos (by omega)]; rfl) (by omega)
    rw [show j / 2 * (1 + 1) + j % 2 = j by omega] at h1
    rw [h1]
    rcases (by omega : j % 2 = 0 ∨ j % 2 = 1) with h | h
    · rw [h]; simp [madeCells, hj, h, Value.cells, neP]
    · rw [h]; simp [madeCells, hj, h, Value.cells, neP]
  · rw [List.getElem?_eq_none (l := cellsN _ _) (by rw [cellsN_len 1 _ _ (by simp) (neP_pre _)]; simp; omega)]
    simp [madeCells, hj]
theorem fill_put (P : List (Int × List Int)) (k : Nat) (p : Int × List Int) (hp : P[k]? = some p) : (P.take k ++ List.replicate (P.length - k) ((0 : Int), ([] : List Int))).set k p = P.take (k + 1) ++ List.replicate (P.length - (k + 1)) (0, []) := by
  have hk : k < P.length := (List.getElem?_eq_some_iff.1 hp).1
  have e : P.take (k + 1) = P.take k ++ [p] := by rw [List.take_add_one, hp]; rfl
  rw [e, show P.length - k = (P.length - (k + 1)) + 1 by omega, List.replicate_succ, List.set_append_right _ _ (by simp; omega)]
  have : k - (P.take k).length = 0 := by simp; omega
  rw [this]
  simp
theorem OwnN.zeros {w : World} {base n : Nat} {v : Value} (h : w.ownsRow base 52 2 v n (cellsN (List.replicate n (.slice none 0 0)) ((List.replicate n ((0 : Int), ([] : List Int))).map neP))) : OwnN w base 52 1 v ((List.replicate n ((0 : Int), ([] : List Int))).map neP) (List.replicate n (.slice none 0 0)) := by
  refine ⟨by simp, neP_pre _, by simpa using h, fun i u l hu hl => ?_, fun i j u u' b hu _ hb _ => ?_⟩
  · rw [List.getElem?_replicate] at hu
    split at hu
    · cases hu
      rw [List.getElem?_map, List.getElem?_replicate] at hl
      split at hl
      · cases hl
        exact ⟨rfl, .inl ⟨rfl, rfl⟩⟩
      · contradiction
    · cases hu
  · rw [List.getElem?_replicate] at hu
    split at hu
    · cases hu
      cases hb
    · cases hu

set_option maxRecDepth 100000 in
set_option maxHeartbeats 2000000 in
theorem toPutS_any (v : Value) (P : List (Int × List Int)) (us : List Value) (w : World) (h : RdN w 1 v (P.map neP) us) (hn : P.length ≤ 1048576) (hb : ∀ p ∈ P, p.2.length ≤ 1048576) :
    Calls Tryd.prog 15 #[v] w fun e w' => ∃ v' vs, e = .returned v' ∧ OwnN w' w.heap.size 52 1 v' (P.map neP) vs ∧ Below w.heap.size w w' := by
  obtain ⟨i0, hi, hz0, hz1, hz2⟩ := info_parts infoPz
  obtain ⟨a, cap, rfl⟩ : ∃ a cap, v = .slice a P.length cap := by obtain ⟨a, cap, e, _⟩ := h.row; exact ⟨a, cap, by simpa using e⟩
  have hm : P.length ≤ maxLen := by unfold maxLen; omega
  have HR := hide (show RdN w 1 (.slice a (P.map neP).length cap) (P.map neP) us from by simpa using h)
  have HB := hide hb
  clear h hb
  go_enter Tryd.func15, Tryd.ntmps15
  go_wp2_with (first | (refine wpList_make_full _ rfl (.tmp 6) (.tmp 6) 35 rfl w.heap.size 52 i0 (.agg #[.int .i64 0, .slice none 0 0]) 2 Tryd.underlying35 hi hz0 hz1 .i64 .i64 P.length P.length P.length rfl rfl rfl rfl (by rw [hz2]; omega) hm (Nat.le_refl _) ?_; intro w1 hown hgrow; rw [made_put] at hown) | fail)
  have H1 := hide (show OwnN w1 w.heap.size 52 1 (.slice (some ⟨w.heap.size, 0, none⟩) P.length P.length) ((List.replicate P.length ((0 : Int), ([] : List Int))).map neP) (List.replicate P.length (.slice none 0 0)) ∧ Below w.heap.size w w1 from
    ⟨OwnN.zeros hown, (Below.refl _ _).grown hgrow (Nat.le_refl _) (fun k h => by cases h)⟩)
  clear hgrow hown
  go_loopw [4] (fun i wr => ∃ (k : Nat) (vs : List Value), k ≤ P.length ∧ i = .int .i64 k ∧ OwnN wr w.heap.size 52 1 (.slice (some ⟨w.heap.size, 0, none⟩) P.length P.length) ((P.take k ++ List.replicate (P.length - k) ((0 : Int), ([] : List Int))).map neP) vs ∧ Below w.heap.size w wr) (fun i _ => P.length - (intOf i).toNat)
  case atStart => exact ⟨0, _, Nat.zero_le _, rfl, by simpa using H1.out.1, H1.out.2⟩
  case round =>
    clear H1
    obtain ⟨k, vs, hk, rfl, ho, hbel⟩ := hrel
    have HO := hide (And.intro ho hbel)
    clear ho hbel
    by_cases hlt : k < P.length
    · obtain ⟨p, hp⟩ : ∃ p, P[k]? = some p := ⟨_, List.getElem?_eq_getElem hlt⟩
      obtain ⟨bq, zs⟩ := p
      obtain ⟨b0, off, u, e0, hb0, hu, hrd, hrg⟩ := (HR.out.below HO.out.2).at (i := k) (l := neP (bq, zs)) (by rw [List.getElem?_map, hp]; rfl)
      subst e0
      have hzs := HB.out (bq, zs) (List.mem_of_getElem? hp)
      simp only at hzs
      have HP := hide hp
      have HRg := hide (show wr.rangeAt b0 (off + k * 2) [.int .i64 bq, u] from hrg)
      have HRd := hide (show Rd .u8 wr u zs from hrd)
      clear hrg hrd hu hp
      go_wp2_with (first | (refine wpList_load_mid rfl 69 _ rfl b0 (off + k * 2) rfl [.int .i64 bq, u] _ HRg.out Tryd.underlying69 rfl infoPL ?_) | fail)
      refine (toPut_any bq u zs _ HRd.out (by omega)).mono ?_
      rintro e w2 ⟨u', rfl, o2, b2⟩
      obtain ⟨a2, c2, rfl⟩ := own_shape o2
      have O2 := hide (HO.out.1.below b2)
      have B2 := hide (HO.out.2.trans (b2.mono HO.out.2.size))
      have hfr : ∀ (j : Nat) (x : Value) (q : Nat), vs[j]? = some x → x.ownBlock = some q → (Value.slice a2 zs.length c2).ownBlock ≠ some q := fun j x q hx hq e => by
        have h1 := (o2.lt q e).1
        have hjl : j < vs.length := (List.getElem?_eq_some_iff.1 hx).1
        rw [HO.out.1.len] at hjl
        have h2 := ((HO.out.1.dat j x _ hx (List.getElem?_eq_getElem hjl)).lt q hq).2
        omega
      have hQk : ((P.take k ++ List.replicate (P.length - k) ((0 : Int), ([] : List Int))).map neP)[k]? = some (neP (0, [])) := by
        rw [List.getElem?_map, List.getElem?_append_right (by simp; omega), List.getElem?_replicate, if_pos (by simp; omega)]
        rfl
      have h3 := O2.out.field (by decide) k 0 (neP (0, [])) (.int .i64 bq) hQk (by omega) (g := w.heap.size) rfl
      have h4 := h3.last (by decide) k (l := ([.int .i64 bq], [])) (.slice a2 zs.length c2) zs (by rw [List.getElem?_set_self (List.getElem?_eq_some_iff.1 hQk).1]; rfl) (g := w.heap.size) rfl (by
        refine (own_mono o2 HO.out.2.size).kept (row := some w.heap.size) ⟨rfl, rfl, rfl, by simp [World.setCell], fun q hq hne => Below.heap_setCell w2 ⟨w.heap.size, k * (1 + 1) + 0, none⟩ _ q (fun e => hne (by rw [e]))⟩ (own_apart o2 O2.out.row (by decide))) hfr
      rw [List.set_set] at h4
      have h5 : ((P.take k ++ List.replicate (P.length - k) ((0 : Int), ([] : List Int))).map neP).set k ([.int .i64 bq], zs) = (P.take (k + 1) ++ List.replicate (P.length - (k + 1)) ((0 : Int), ([] : List Int))).map neP := by
        rw [← fill_put P k (bq, zs) HP.out, List.map_set]
        rfl
      rw [h5] at h4
      have H4 := hide (show OwnN (w2.setCells w.heap.size (k * 2) [.int .i64 bq, .slice a2 zs.length c2]) w.heap.size 52 1 (.slice (some ⟨w.heap.size, 0, none⟩) P.length P.length) ((P.take (k + 1) ++ List.replicate (P.length - (k + 1)) ((0 : Int), ([] : List Int))).map neP) (vs.set k (.slice a2 zs.length c2)) ∧ Below w.heap.size w (w2.setCells w.heap.size (k * 2) [.int .i64 bq, .slice a2 zs.length c2]) from ⟨h4, below_cells (Nat.le_refl _) _ _ B2.out⟩)
      have HT := hide (there_row (show w2.ownsRow w.heap.size 52 2 (.slice (some ⟨w.heap.size, 0, none⟩) P.length P.length) P.length _ from by
        have := O2.out.row
        rw [show ((P.take k ++ List.replicate (P.length - k) ((0 : Int), ([] : List Int))).map neP).length = P.length by simp; omega] at this
        exact this) (o := k * 2) (m := 2) (by omega))
      clear h3 h4 h5 hfr hQk o2 b2 O2 B2 HO
      go_wp2_with (first | (refine wpList_store_mid rfl 52 _ _ rfl w.heap.size (k * 2) #[.int .i64 bq, .slice a2 zs.length c2] rfl rfl HT.out infoP2 (onePut _ _ _ _) ?_) | fail)
      go_roundw
      case rel => exact ⟨k + 1, _, by omega, by go_num, H4.out.1, H4.out.2⟩
      case measure => simp [intOf]; omega
    · obtain rfl : k = P.length := by omega
      have HF := hide (show OwnN wr w.heap.size 52 1 (.slice (some ⟨w.heap.size, 0, none⟩) P.length P.length) (P.map neP) vs from by
        have := HO.out.1
        rw [Nat.sub_self, List.replicate_zero, List.append_nil, List.take_length] at this
        exact this)
      go_wp2
      go_ret
      exact ⟨_, _, rfl, HF.out, HO.out.2⟩
end Go.Proofs.YtmmhkjpkidljlaaDoor
