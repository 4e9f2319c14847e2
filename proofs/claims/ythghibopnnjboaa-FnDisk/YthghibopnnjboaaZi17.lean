/- The model's device: writes made to an image (l01Make). The model's device: l01Make, walked. -/
import Derived.Test.YthghibopnnjboaaZi15
import Derived.Test.YthghibopnnjboaaZi16
namespace Go.Proofs.Ythghibopnnjboaa
set_option linter.unusedVariables false
set_option linter.unusedSimpArgs false
open Go.RowKit

/-- Writes made to bytes, in order. -/
def mkO (L : List Int) (c : Nat × List Int) : List Int := splice L c.1 c.2
def mkW (L : List Int) (C : List (Nat × List Int)) : List Int := C.foldl mkO L
def neW (c : Nat × List Int) : NE := ([.int .i64 (c.1 : Int)], c.2)
theorem splice_get (L cs : List Int) (o i : Nat) (h : o + cs.length ≤ L.length) : (splice L o cs)[i]? = if i < o then L[i]? else if i < o + cs.length then cs[i - o]? else L[i]? := by
  unfold splice
  have ht : (L.take o).length = o := by rw [List.length_take]; omega
  by_cases h1 : i < o
  · rw [if_pos h1, List.getElem?_append_left (by omega), List.getElem?_take, if_pos h1]
  · rw [if_neg h1, List.getElem?_append_right (by omega), ht]
    by_cases h2 : i < o + cs.length
    · rw [if_pos h2, List.getElem?_append_left (by omega)]
    · rw [if_neg h2, List.getElem?_append_right (by omega), List.getElem?_drop]
      congr 1
      omega
theorem splice_step (L d : List Int) (o k : Nat) (hk : k < d.length) (h : o + d.length ≤ L.length) : (splice L o (d.take k)).set (o + k) (d.getD k 0) = splice L o (d.take (k + 1)) := by
  apply List.ext_getElem?
  intro i
  have l1 : (d.take k).length = k := by rw [List.length_take]; omega
  have l2 : (d.take (k + 1)).length = k + 1 := by rw [List.length_take]; omega
  have ls : (splice L o (d.take k)).length = L.length := length_splice _ _ _ (by omega)
  rw [List.getElem?_set, splice_get _ _ _ _ (by omega), splice_get _ _ _ _ (by omega), l1, l2]
  by_cases h0 : o + k = i
  · subst h0
    rw [if_pos rfl, if_pos (by omega), if_neg (by omega), if_pos (by omega), show o + k - o = k by omega, List.getElem?_take, if_pos (by omega)]
    simp [List.getD, hk]
  · rw [if_neg h0]
    by_cases h1 : i < o
    · rw [if_pos h1, if_pos h1]
    · rw [if_neg h1, if_neg h1]
      by_cases h2 : i < o + k
      · rw [if_pos h2, if_pos (by omega), List.getElem?_take, if_pos (by omega), List.getElem?_take, if_pos (by omega)]
      · rw [if_neg h2, if_neg (by omega)]
theorem splice_nil (L : List Int) (o : Nat) (h : o ≤ L.length) : splice L o [] = L := by simp [splice]
theorem mkW_len : ∀ (C : List (Nat × List Int)) (L : List Int), (∀ c ∈ C, c.1 + c.2.length ≤ L.length) → (mkW L C).length = L.length
  | [], L, _ => rfl
  | c :: C, L, h => by
    have h1 : (mkO L c).length = L.length := length_splice _ _ _ (h c (by simp))
    have := mkW_len C (mkO L c) (fun x hx => by rw [h1]; exact h x (by simp [hx]))
    rw [← h1, ← this]
    rfl
theorem mkW_snoc (L : List Int) (C : List (Nat × List Int)) (i : Nat) (c : Nat × List Int) (h : C[i]? = some c) : mkW L (C.take (i + 1)) = mkO (mkW L (C.take i)) c := by
  rw [List.take_add_one, h]
  unfold mkW
  rw [List.foldl_append]
  rfl
theorem own_setK {w : World} {base g n cap k : Nat} {e : TypeId} {zs : List Int} (h : w.ownsRow base e 1 (.slice (some ⟨g, 0, none⟩) n cap) n (zs.map (Value.int .u8))) (d : Int) : (w.setCell ⟨g, k, none⟩ (.int .u8 d)).ownsRow base e 1 (.slice (some ⟨g, 0, none⟩) n cap) n ((zs.set k d).map (Value.int .u8)) := by
  rcases h.2 with ⟨e1, _⟩ | ⟨g', cap', cur, e1, hb, hc, hn, hm, hs, ht⟩
  · cases e1
  · injection e1 with e1 e2 e3
    injection e1 with e1
    injection e1 with e1 e4
    subst e1
    subst e3
    refine ⟨by simpa using h.1, .inr ⟨g, cap, cur.setIfInBounds k (.int .u8 d), rfl, hb, heap_setCell_same w g k cur e _ hc, hn, hm, by simpa using hs, ?_⟩⟩
    rw [Array.toList_setIfInBounds, List.take_set, ht, List.map_set]
theorem own_cellK {w : World} {base g n cap k : Nat} {e : TypeId} {zs : List Int} (h : w.ownsRow base e 1 (.slice (some ⟨g, 0, none⟩) n cap) n (zs.map (Value.int .u8))) (hk : k < n) : (∃ y : Value, w.cell? ⟨g, k, none⟩ = some y) ∧ w.frozen? ⟨g, k, none⟩ = false := by
  rcases h.2 with ⟨e1, _⟩ | ⟨g', cap', cur, e1, hb, hc, hn, hm, hs, ht⟩
  · cases e1
  · injection e1 with e1 e2 e3
    injection e1 with e1
    injection e1 with e1 e4
    subst e1
    have hB : Blk w g cur _ := hc
    refine ⟨⟨_, (hB.cell k).trans (Array.getElem?_eq_getElem (by rw [hs]; omega))⟩, hB.frozen _⟩
end Go.Proofs.Ythghibopnnjboaa

namespace Go.Proofs.Ythghibopnnjboaa
set_option linter.unusedVariables false
set_option linter.unusedSimpArgs false
open Go.RowKit

theorem place_rowK {w : World} {base : Nat} {e : TypeId} {sz : Nat} {v : Value} {n : Nat} {xs : List Value} (h : w.ownsRow base e sz v n xs) (hn : 0 < n) : ∃ g cap, v = .slice (some ⟨g, 0, none⟩) n cap := by
  rcases h.2 with ⟨rfl, rfl⟩ | ⟨g, cap, _, rfl, _⟩
  · omega
  · exact ⟨_, _, rfl⟩
set_option maxRecDepth 100000 in
set_option maxHeartbeats 4000000 in
theorem make_any (vi vc : Value) (L : List Int) (C : List (Nat × List Int)) (us : List Value) (w : World) (h : Rd .u8 w vi L) (hc : RdN w 1 vc (C.map neW) us) (hok : ∀ c ∈ C, c.1 + c.2.length ≤ L.length) (hL : L.length ≤ 1048576) (hC : C.length ≤ 100000) :
    Calls Try.prog 52 #[vi, vc] w fun e w' => ∃ v', e = .returned v' ∧ w'.ownsRow w.heap.size 5 1 v' L.length ((mkW L C).map (Value.int .u8)) ∧ Below w.heap.size w w' := by
  obtain ⟨i0, hi, hz0, hz1, hz2⟩ := info_parts infoU8
  obtain ⟨a, cap, rfl⟩ : ∃ a cap, vi = .slice a L.length cap := by obtain ⟨a, cap, e, _⟩ := h; exact ⟨a, cap, e⟩
  obtain ⟨ca, cc, rfl⟩ : ∃ ca cc, vc = .slice ca C.length cc := by obtain ⟨a, c, e, _⟩ := hc.row; rw [List.length_map] at e; exact ⟨a, c, e⟩
  have HR := hide h.srcM
  have HC := hide hc
  have HO := hide hok
  clear h hc hok
  obtain ⟨LL, hLL⟩ : ∃ LL, LL = L.length := ⟨_, rfl⟩
  obtain ⟨CL, hCL⟩ : ∃ CL, CL = C.length := ⟨_, rfl⟩
  rw [← hLL] at HR hL ⊢
  rw [← hCL] at HC hC ⊢
  have HLL := hide hLL
  have HCL := hide hCL
  clear hLL hCL
  go_enter Try.func52, Try.ntmps52
  go_wp2_with (first | (at_builtin; refine wpList_append_copyM w rfl (.tmp 10) (.tmp 11) 22 rfl 5 i0 (.int .u8 0) 1 1 Try.underlying22 hi hz0 hz1 hz2 rfl (by decide) rfl a LL cap (L.map (Value.int .u8)) rfl (by rw [List.length_map, HLL.out, Nat.mul_one]) HR.out (ints_oneCell _ _) (by unfold maxLen; omega) (by omega) ?_; intro v1 w1 o1 b1; obtain ⟨oa, oc, rfl⟩ := shape_rowK o1; have O1 := hide (And.intro o1 b1); clear o1 b1) | fail)
  go_loopw [15] (fun iv wx => ∃ i : Nat, i ≤ CL ∧ iv = .int .i64 (i : Int) ∧ wx.ownsRow w.heap.size 5 1 (.slice oa LL oc) LL ((mkW L (C.take i)).map (Value.int .u8)) ∧ Below w.heap.size w wx) (fun iv _ => CL - (intOf iv).toNat)
  case atStart => exact ⟨0, by omega, rfl, O1.out.1, O1.out.2⟩
  case round =>
    clear O1
    obtain ⟨i, hiC, rfl, ho, hb⟩ := hrel
    have HK := hide (And.intro ho hb)
    clear ho hb
    by_cases hlt : i < CL
    · obtain ⟨c, hcx⟩ : ∃ c, C[i]? = some c := ⟨_, List.getElem?_eq_getElem (by have := HCL.out; omega)⟩
      obtain ⟨at1, d⟩ := c
      have hokc := HO.out _ (List.mem_of_getElem? hcx)
      simp only at hokc
      obtain ⟨b, off, u, hca, hbl, hu, hrd, hrg⟩ := RdN.at (i := i) (l := neW (at1, d)) (show RdN w 1 (.slice ca (C.map neW).length cc) (C.map neW) us by rw [List.length_map, ← HCL.out]; exact HC.out) (by rw [List.getElem?_map, hcx]; rfl)
      subst hca
      obtain ⟨da, dc, rfl⟩ : ∃ da dc, u = .slice da d.length dc := by obtain ⟨a, c, e, _⟩ := hrd; exact ⟨a, c, e⟩
      have hI : (i : Int) < (CL : Int) := by omega
      have ce0 := (HK.out.2.cell (p := ⟨b, off + i * 2, none⟩) hbl).trans (show w.cell? ⟨b, off + i * 2, none⟩ = some (.int .i64 (at1 : Int)) by have := hrg 0 (.int .i64 (at1 : Int)) rfl; simpa using this)
      have ce1 := (HK.out.2.cell (p := ⟨b, off + i * 2 + 1, none⟩) hbl).trans (show w.cell? ⟨b, off + i * 2 + 1, none⟩ = some (.slice da d.length dc) by have := hrg 1 (.slice da d.length dc) rfl; simpa using this)
      obtain ⟨dl, hdl⟩ : ∃ dl, dl = d.length := ⟨_, rfl⟩
      have hat : at1 + dl ≤ LL := by rw [hdl, HLL.out]; exact hokc
      rw [← hdl] at ce1
      have HD := hide (And.intro (show Rd .u8 w (.slice da d.length dc) d from hrd) (And.intro hdl hcx))
      have B3 := hide (show Below wr.heap.size wr (wr.alloc (.cells #[.int .i64 (at1 : Int), .slice da dl dc] 92)) from (Below.refl _ _).alloc (Nat.le_refl _) _)
      have K3 := hide (Blk.new wr #[.int .i64 (at1 : Int), .slice da dl dc] 92)
      clear hrd hrg hu hdl hokc hcx
      obtain ⟨M, hM⟩ : ∃ M, M = mkW L (C.take i) := ⟨_, rfl⟩
      have hMl : M.length = LL := by rw [hM, HLL.out]; exact mkW_len _ _ (fun c hc => HO.out c (List.mem_of_mem_take hc))
      rw [← hM] at HK
      have HM := hide (And.intro hM hMl)
      clear hM hMl
      go_wp2
      obtain ⟨gB, hgB⟩ : ∃ gB, gB = wr.heap.size := ⟨_, rfl⟩
      have S3 := hide (show (wr.alloc (.cells #[.int .i64 (at1 : Int), .slice da dl dc] 92)).ownsRow w.heap.size 5 1 (.slice oa LL oc) LL ((splice M at1 (d.take 0)).map (Value.int .u8)) ∧ Below w.heap.size w (wr.alloc (.cells #[.int .i64 (at1 : Int), .slice da dl dc] 92)) ∧ Blk (wr.alloc (.cells #[.int .i64 (at1 : Int), .slice da dl dc] 92)) gB #[.int .i64 (at1 : Int), .slice da dl dc] 92 from ⟨by rw [List.take_zero, splice_nil _ _ (by rw [HM.out.2]; omega)]; exact own_below HK.out.1 B3.out, HK.out.2.trans (B3.out.mono HK.out.2.size), by rw [hgB]; exact K3.out⟩)
      have hgw : w.heap.size ≤ gB := by rw [hgB]; exact HK.out.2.size
      rw [← hgB]
      clear hgB B3 K3 HK ce0 ce1
      go_loopw [22] (fun kv wx => ∃ k : Nat, k ≤ dl ∧ kv = .int .i64 (k : Int) ∧ wx.ownsRow w.heap.size 5 1 (.slice oa LL oc) LL ((splice M at1 (d.take k)).map (Value.int .u8)) ∧ Below w.heap.size w wx ∧ Blk wx gB #[.int .i64 (at1 : Int), .slice da dl dc] 92) (fun kv _ => dl - (intOf kv).toNat)
      case atStart => exact ⟨0, by omega, rfl, S3.out.1, S3.out.2.1, S3.out.2.2⟩
      case round =>
        clear S3
        obtain ⟨k, hkd, rfl, ho, hb, hk3⟩ := hrel
        by_cases hk : k < dl
        · have hkI : (k : Int) < (dl : Int) := by omega
          obtain ⟨bd, od, cd, hdv, hbd, _, _, hcell⟩ := HD.out.1.partsC (by rw [← HD.out.2.1]; omega)
          injection hdv with e1 e2 e3
          subst e1
          subst e3
          clear e2
          have cd1 := (hb.cell (p := ⟨bd, od + k, none⟩) hbd).trans (show w.cell? ⟨bd, od + k, none⟩ = some (.int .u8 (d.getD k 0)) from hcell k (by rw [← HD.out.2.1]; exact hk))
          have cb0 := (hk3.cell 0).trans (show _ = some (.int .i64 (at1 : Int)) from rfl)
          obtain ⟨go, co, hov⟩ := place_rowK ho (by omega)
          injection hov with f1 f2 f3
          subst f1
          subst f3
          clear f2
          obtain ⟨⟨y, cy⟩, fy⟩ := own_cellK ho (show at1 + k < LL by omega)
          obtain ⟨x, hx⟩ : ∃ x, x = d.getD k 0 := ⟨_, rfl⟩
          rw [← hx] at cd1
          have hne : go ≠ gB := fun e => by
            rcases ho.2 with ⟨e1, _⟩ | ⟨g', cap', cur, e1, _, hg, _⟩
            · cases e1
            · injection e1 with e1 _ _
              injection e1 with e1
              injection e1 with e1 _
              subst e1
              subst e
              have h2 : wr.heap[go]? = some (.cells #[.int .i64 (at1 : Int), .slice (some ⟨bd, od, none⟩) dl dc] 92 (0, 0)) := hk3
              rw [hg] at h2
              injection h2 with h2
              injection h2 with _ h2 _
              exact absurd h2 (by decide)
          have H4 := hide (show (wr.setCell ⟨go, at1 + k, none⟩ (.int .u8 x)).ownsRow w.heap.size 5 1 (.slice (some ⟨go, 0, none⟩) LL oc) LL ((splice M at1 (d.take (k + 1))).map (Value.int .u8)) ∧ Below w.heap.size w (wr.setCell ⟨go, at1 + k, none⟩ (.int .u8 x)) ∧ Blk (wr.setCell ⟨go, at1 + k, none⟩ (.int .u8 x)) gB #[.int .i64 (at1 : Int), .slice (some ⟨bd, od, none⟩) dl dc] 92 from
            ⟨by rw [← splice_step M d at1 k (by rw [← HD.out.2.1]; exact hk) (by rw [← HD.out.2.1, HM.out.2]; exact hat), ← hx]; exact own_setK ho x, hb.setCell (p := ⟨go, at1 + k, none⟩) (ho.lt go rfl).1 _, hk3.other _ _ (Ne.symm hne)⟩)
          clear ho hb hk3 hcell hx
          go_wp2
          go_roundw
          case rel => exact ⟨k + 1, by omega, by go_num, H4.out.1, H4.out.2.1, H4.out.2.2⟩
          case measure => simp [intOf]; omega
        · have hk2 : k = dl := by omega
          subst hk2
          have q2 : ¬ ((k : Int) < (k : Int)) := by omega
          have H5 := hide (show wr.ownsRow w.heap.size 5 1 (.slice oa LL oc) LL ((mkW L (C.take (i + 1))).map (Value.int .u8)) ∧ Below w.heap.size w wr from ⟨by rw [mkW_snoc L C i (at1, d) HD.out.2.2, ← HM.out.1]; rw [List.take_of_length_le (by rw [← HD.out.2.1]; omega)] at ho; exact ho, hb⟩)
          clear ho hb hk3
          go_wp2
          go_roundw
          case rel => exact ⟨i + 1, by omega, by go_num, H5.out.1, H5.out.2⟩
          case measure => simp [intOf]; omega
    · have hlt2 : i = CL := by omega
      subst hlt2
      have q1 : ¬ ((i : Int) < (i : Int)) := by omega
      go_wp2
      go_ret
      refine ⟨_, rfl, ?_, HK.out.2⟩
      have h1 := HK.out.1
      rw [List.take_of_length_le (by have := HCL.out; omega)] at h1
      exact h1
end Go.Proofs.Ythghibopnnjboaa
