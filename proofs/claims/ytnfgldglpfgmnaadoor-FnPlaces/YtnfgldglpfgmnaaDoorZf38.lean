/- The program's renewal: renewData. -/
import Derived.Test.YtnfgldglpfgmnaaDoorZf37
import Derived.Deep.RegionHeld3
import Derived.Deep.MidRow
import Derived.Laws.CopyOwn
import Derived.Laws.CopyRow
namespace Go.Proofs.YtnfgldglpfgmnaaDoor
set_option linter.unusedVariables false
set_option linter.unusedSimpArgs false
open Go.RowKit

set_option maxRecDepth 100000 in
theorem slice_pieceR {w0 : World} {a : Option Addr} {len cap : Nat} {zs : List Int} (h : Rd .u8 w0 (.slice a len cap) zs) (lo hi : Nat) (h1 : lo ≤ hi) (h2 : hi ≤ zs.length) :
    ∃ a' c', Rd .u8 w0 (.slice a' (hi - lo) c') ((zs.drop lo).take (hi - lo)) ∧ ∀ wx, (Instr.slice 22 (.slice a len cap) (some (.int .i64 (lo : Int))) (some (.int .i64 (hi : Int))) none).run Tryd.prog wx = .ok (.slice a' (hi - lo) c') wx := by
  obtain ⟨i0, hi0, hz0, hz1, hz2⟩ := info_parts infoU8
  obtain ⟨a0, cap0, e, hm, hc, hl, hcm⟩ := h
  injection e with e1 e2 e3
  subst e1 e2 e3
  have hlen : ((zs.drop lo).take (hi - lo)).length = hi - lo := by rw [List.length_take, List.length_drop]; omega
  have hrun : ∀ wx, (Instr.slice 22 (.slice a zs.length cap) (some (.int .i64 (lo : Int))) (some (.int .i64 (hi : Int))) none).run Tryd.prog wx = .ok (sliced a lo hi cap 1) wx := fun wx => by
    rw [run_slice_lh (P := Tryd.prog) (w := wx) 22 a zs.length cap (by rw [Tryd.underlying22]; rfl) .i64 .i64 (lo : Int) (hi : Int) (by omega) (by omega) (by omega)]
    simp [sizeOf, typeInfo, show Tryd.prog.elem 22 = 5 from by kernel_rfl, hi0, hz1, Result.andThen]
  refine ⟨_, _, ?_, hrun⟩
  refine ⟨_, _, by rw [hlen], by omega, fun hne => ?_, by rw [hlen]; omega, by omega⟩
  have hp : lo < zs.length := by
    rcases Nat.lt_or_ge lo zs.length with h | h
    · exact h
    · exact absurd (by rw [List.drop_eq_nil_of_le h]; simp) hne
  obtain ⟨b, off, rfl, hb, hcell⟩ := hc (fun e => by rw [e] at hp; simp at hp)
  refine ⟨b, off + lo, ?_, hb, fun i hi2 => ?_⟩
  · rw [if_neg (by omega), Option.map_some, Nat.mul_one, Addr.add_mid]
  · rw [hlen] at hi2
    rw [Nat.add_assoc, hcell (lo + i) (by omega)]
    simp [List.getD, hi2]
set_option maxRecDepth 100000 in
theorem slice_pieceRL {w0 : World} {a : Option Addr} {len cap : Nat} {zs : List Int} (h : Rd .u8 w0 (.slice a len cap) zs) (lo : Nat) (h2 : lo ≤ zs.length) :
    ∃ a' c', Rd .u8 w0 (.slice a' (zs.length - lo) c') (zs.drop lo) ∧ ∀ wx, (Instr.slice 22 (.slice a len cap) (some (.int .i64 (lo : Int))) none none).run Tryd.prog wx = .ok (.slice a' (zs.length - lo) c') wx := by
  obtain ⟨a', c', hr, hrun⟩ := slice_pieceR h lo zs.length h2 (Nat.le_refl _)
  have hl : len = zs.length := by obtain ⟨_, _, e, _⟩ := h; injection e
  obtain ⟨_, _, e0, _, _, hl2, hcm⟩ := h
  injection e0 with e1 e2 e3
  subst e3
  rw [List.take_of_length_le (by rw [List.length_drop]; omega)] at hr
  refine ⟨a', c', hr, fun wx => ?_⟩
  rw [← hrun wx, run_slice_l (P := Tryd.prog) (w := wx) 22 a len cap (by rw [Tryd.underlying22]; rfl) .i64 (lo : Int) (by omega) (by omega), run_slice_lh (P := Tryd.prog) (w := wx) 22 a len cap (by rw [Tryd.underlying22]; rfl) .i64 .i64 (lo : Int) (zs.length : Int) (by omega) (by omega) (by omega)]
  rw [Int.toNat_natCast, hl, Int.toNat_natCast]
theorem wrapR (z : Int) (h0 : 0 ≤ z) (h1 : z ≤ 100000000) : IntKind.i64.wrap z = z := by rw [IntKind.wrap_i64]; omega
theorem infoU1R : (Tryd.prog.info? 5).map (·.size) = some 1 := by kernel_rfl
/-- Block r of the content, filled up with zeros. -/
def padB (cs : List Int) (r : Nat) : List Int := (cs.drop (r * 512)).take 512 ++ List.replicate (512 - ((cs.drop (r * 512)).take 512).length) 0
theorem padB_len (cs : List Int) (r : Nat) : (padB cs r).length = 512 := by
  unfold padB
  have : ((cs.drop (r * 512)).take 512).length ≤ 512 := by rw [List.length_take]; omega
  rw [List.length_append, List.length_replicate]; omega
theorem padB_splice (cs : List Int) (r : Nat) : splice ((List.replicate 512 (0 : Int)).map (Value.int .u8)) 0 (((cs.drop (r * 512)).take 512).map (Value.int .u8)) = (padB cs r).map (Value.int .u8) := by
  unfold splice padB
  rw [List.take_zero, List.nil_append, List.map_append, List.length_map, Nat.zero_add, ← List.map_drop, List.drop_replicate]
theorem blk_range {w : World} {b : Nat} {t : TypeId} {L : List Value} (h : Blk w b L.toArray t) : w.rangeAt b 0 L := by
  intro j v hv
  rw [Nat.zero_add, h.cell j]
  simpa using hv
theorem RStC.range {W0 W : World} {b : Nat} {D : RD} {C : Array Value} {so sl : Nat → Value} {fv pv : Value} {vs : List Value} (h : RStC W0 W b D C so sl fv pv vs) {w' : World} (hb : Blk w' b C 72) : w'.rangeAt b 0 D.tr.toList := by
  intro j v hv
  have hj : j < 16 := by
    have h1 : j < D.tr.toList.length := by
      rcases Nat.lt_or_ge j D.tr.toList.length with h | h
      · exact h
      · rw [List.getElem?_eq_none h] at hv; cases hv
    rw [Array.length_toList, h.trs] at h1
    exact h1
  rw [Nat.zero_add, hb.cell j, h.tr j hj]
  simpa using hv
theorem place_tr (D : RD) (l r : Nat) (z : Bool) (ys : List Int) : (D.place l r z ys).tr = D.tr := by unfold RD.place RD.setNow RD.fresh; split <;> (try split) <;> rfl
theorem infoTrR : (Tryd.prog.info? 67).map (·.size) = some 16 := by kernel_rfl
set_option maxRecDepth 100000 in
set_option maxHeartbeats 4000000 in
theorem renewData_any (W0 w : World) (b r n : Nat) (ca : Option Addr) (cc : Nat) (cs : List Int) (D : RD) (h : RSt W0 w b D) (hcv : D.cv = .slice ca n cc) (hn : n = cs.length) (hR : Rd .u8 W0 (.slice ca n cc) cs) (hcs : cs.length ≤ 262144) (hrn : r * 512 < cs.length) (hL : (D.Ln 0).length ≤ 100001) (hP : D.P.length ≤ 100000) (ho : (D.Lo 0).getD r 0 = 0) :
    Calls Tryd.prog 47 #[.pointer (some ⟨b, 0, none⟩), spotV 0 r] w fun e w' => e = .returned (.tuple #[]) ∧ RSt W0 w' b (D.place 0 r (decide (padB cs r = List.replicate 512 0)) (padB cs r)) ∧ FrR b w w' ∧ Below W0.heap.size w w' := by
  obtain ⟨Z, hZ, hAl⟩ := letBkZ
  have HAl := hide hAl
  obtain ⟨W2, hW2⟩ : ∃ W2, W2 = (w.alloc (.cells #[.int .i64 (0 : Int), .int .i64 (r : Int)] 113)).alloc (.cells Z 136) := ⟨_, rfl⟩
  have B2 := hide (show Below w.heap.size w W2 from by rw [hW2]; exact ((Below.refl _ _).alloc (Nat.le_refl _) _).alloc (by simp) _)
  have K2 := hide (show Blk W2 w.heap.size #[.int .i64 (0 : Int), .int .i64 (r : Int)] 113 from by rw [hW2]; exact (Blk.new w _ _).alloc _)
  have Z2 := hide (show Blk W2 (w.heap.size + 1) ((List.replicate 512 (0 : Int)).map (Value.int .u8)).toArray 136 from by have h := Blk.new (w.alloc (.cells #[.int .i64 (0 : Int), .int .i64 (r : Int)] 113)) Z 136; rw [World.size_alloc] at h; rw [hW2, ← hZ]; exact h)
  have hs2 : W2.heap.size = w.heap.size + 2 := by rw [hW2]; simp
  have H := hide h
  have HS := hide (And.intro hL (And.intro hP ho))
  have HLO := hide (show W0.heap.size ≤ w.heap.size ∧ Below W0.heap.size W0 w from by obtain ⟨_, _, _, _, _, _, hS⟩ := h; exact ⟨hS.low.size, hS.low⟩)
  obtain ⟨sa, sc, hsr, hsl⟩ := slice_pieceRL hR (r * 512) (by omega)
  rw [← hn] at hsr hsl
  obtain ⟨b2, off2, c2, hsv, hb2, _, _, hcell⟩ := hsr.partsC (by rw [List.length_drop]; omega)
  injection hsv with e1 e2 e3
  subst e1
  subst e3
  clear e2
  have hrn2 : r * 512 < n := by rw [hn]; exact hrn
  have hn2 : n ≤ 262144 := by rw [hn]; exact hcs
  have hrI : (r : Int) * 512 < 262144 := by omega
  have hsl2 : ∀ (wx : World), (Instr.slice 22 (.slice ca n cc) (some (.int .i64 ((r : Int) * 512))) none none).run Tryd.prog wx = .ok (.slice (some ⟨b2, off2, none⟩) (n - r * 512) sc) wx := fun wx => by
    have := hsl wx
    rw [show ((r * 512 : Nat) : Int) = (r : Int) * 512 by omega] at this
    exact this
  have HC := hide (show ∀ j u, (((cs.drop (r * 512)).take 512).map (Value.int .u8))[j]? = some u → W2.drew.cell? ((⟨b2, off2, none⟩ : Addr).add j) = some u from fun j u hj => by
    have hj8 : j < ((cs.drop (r * 512)).take 512).length := by
      rcases Nat.lt_or_ge j ((cs.drop (r * 512)).take 512).length with h | h
      · exact h
      · rw [List.getElem?_eq_none (by simpa using h)] at hj; cases hj
    rw [List.length_take] at hj8
    rw [Addr.add_mid]
    refine (((HLO.out.2.trans (B2.out.mono HLO.out.1)).drew).cell (p := ⟨b2, off2 + j, none⟩) hb2).trans ?_
    rw [hcell j (by omega)]
    rw [List.getElem?_map, List.getElem?_take, if_pos (by omega), List.getElem?_eq_getElem (by omega)] at hj
    rw [← Option.some.inj hj]
    simp only [List.getD, List.getElem?_eq_getElem (show j < (cs.drop (r * 512)).length by omega), Option.getD_some])
  have HLc := hide (show (((cs.drop (r * 512)).take 512).map (Value.int .u8)).length = Nat.min (n - r * 512) 512 from by rw [List.length_map, List.length_take, List.length_drop, hn]; exact Nat.min_comm _ _)
  have HW2 := hide hW2
  have HSz := hide hs2
  have c16 : W2.cell? ⟨b, 16, none⟩ = some (.slice ca n cc) := by
    obtain ⟨_, _, _, _, _, _, hS⟩ := H.out.below B2.out
    exact (hS.now.box.cell 16).trans (hS.cv.trans (by rw [hcv]))
  have C16 := hide c16
  have HBL := hide (show b < w.heap.size from by obtain ⟨_, _, _, _, _, _, hS⟩ := H.out; exact hS.now.box.lt)
  clear hW2 h hL hP ho hR hsr hcell hsl hn hZ hAl hs2 hb2 hcs hrn hcv c16
  go_enter Tryd.func47, Tryd.ntmps47
  unfold spotV
  go_upto_region 2 with (first
    | (refine Great.wpList_allocTo rfl (some 4) rfl (.pointer (some ⟨w.heap.size + 1, 0, none⟩)) (.cells Z 136) (by have e := HAl.out; rw [show w.heap.size + 1 = (w.alloc (.cells #[.int .i64 (0 : Int), .int .i64 (r : Int)] 113)).heap.size by simp]; exact e _ _ _ rfl) ?_)
    | fail)
  rw [← HW2.out]
  refine wp_region_noPanic ?_
  refine wp_region_held_drew (S := fun w' => w'.cell? ⟨b, 16, none⟩ = some (.slice ca n cc) ∧ w'.cell? ⟨w.heap.size, 1, none⟩ = some (.int .i64 (r : Int))) (by kernel_rfl) ⟨C16.out, (K2.out.cell 1).trans rfl⟩ (fun hH => ?_)
  refine wpAnyH_take (i := 0) (oi := _) (v := .slice (some ⟨w.heap.size + 1, 0, none⟩) 512 512) rfl (by kernel_rfl) (by kernel_rfl) (by kernel_rfl) (fun _ _ _ h => h) (Or.inl ⟨by rfl, fun w' hw' => by go_simp⟩) hH ?_
  try simp only [Act.put, List.getElem_toArray, List.getElem_cons_zero, List.getElem_cons_succ, List.setIfInBounds_toArray, List.set_cons_zero, List.set_cons_succ]
  refine wpAnyH_take (i := 1) (oi := _) (v := .pointer (some ⟨b, 0, none⟩)) rfl (by kernel_rfl) (by kernel_rfl) (by kernel_rfl) (fun _ _ _ h => h) (Or.inl ⟨by rfl, fun w' hw' => by go_simp⟩) hH ?_
  try simp only [Act.put, List.getElem_toArray, List.getElem_cons_zero, List.getElem_cons_succ, List.setIfInBounds_toArray, List.set_cons_zero, List.set_cons_succ]
  refine wpAnyH_take (i := 2) (oi := _) (v := .pointer (some ⟨b, 0, none⟩)) rfl (by kernel_rfl) (by kernel_rfl) (by kernel_rfl) (fun _ _ _ h => h) (Or.inl ⟨by rfl, fun w' hw' => by go_simp⟩) hH ?_
  try simp only [Act.put, List.getElem_toArray, List.getElem_cons_zero, List.getElem_cons_succ, List.setIfInBounds_toArray, List.set_cons_zero, List.set_cons_succ]
  refine wpAnyH_take (i := 3) (oi := _) (v := .pointer (some ⟨b, 16, none⟩)) rfl (by kernel_rfl) (by kernel_rfl) (by kernel_rfl) (fun _ _ _ h => h) (Or.inl ⟨by rfl, fun w' hw' => by go_simp⟩) hH ?_
  try simp only [Act.put, List.getElem_toArray, List.getElem_cons_zero, List.getElem_cons_succ, List.setIfInBounds_toArray, List.set_cons_zero, List.set_cons_succ]
  refine wpAnyH_take (i := 4) (oi := _) (v := .slice ca n cc) rfl (by kernel_rfl) (by kernel_rfl) (by kernel_rfl) (fun _ _ _ h => h) (Or.inl ⟨by rfl, fun w' hw' => by obtain ⟨s1, s2⟩ := hw'; go_simp⟩) hH ?_
  try simp only [Act.put, List.getElem_toArray, List.getElem_cons_zero, List.getElem_cons_succ, List.setIfInBounds_toArray, List.set_cons_zero, List.set_cons_succ]
  refine wpAnyH_take (i := 5) (oi := _) (v := .pointer (some ⟨w.heap.size, 1, none⟩)) rfl (by kernel_rfl) (by kernel_rfl) (by kernel_rfl) (fun _ _ _ h => h) (Or.inl ⟨by rfl, fun w' hw' => by go_simp⟩) hH ?_
  try simp only [Act.put, List.getElem_toArray, List.getElem_cons_zero, List.getElem_cons_succ, List.setIfInBounds_toArray, List.set_cons_zero, List.set_cons_succ]
  refine wpAnyH_take (i := 6) (oi := _) (v := .int .i64 (r : Int)) rfl (by kernel_rfl) (by kernel_rfl) (by kernel_rfl) (fun _ _ _ h => h) (Or.inl ⟨by rfl, fun w' hw' => by obtain ⟨s1, s2⟩ := hw'; go_simp⟩) hH ?_
  try simp only [Act.put, List.getElem_toArray, List.getElem_cons_zero, List.getElem_cons_succ, List.setIfInBounds_toArray, List.set_cons_zero, List.set_cons_succ]
  refine wpAnyH_take (i := 7) (oi := _) (v := .int .i64 ((r : Int) * 512)) rfl (by kernel_rfl) (by kernel_rfl) (by kernel_rfl) (fun _ _ _ h => h) (Or.inl ⟨by rfl, fun w' hw' => by have hw6 := wrapR ((r : Int) * 512) (by omega) (by omega); go_simp⟩) hH ?_
  try simp only [Act.put, List.getElem_toArray, List.getElem_cons_zero, List.getElem_cons_succ, List.setIfInBounds_toArray, List.set_cons_zero, List.set_cons_succ]
  refine wpAnyH_take (i := 8) (oi := _) (v := .slice (some ⟨b2, off2, none⟩) (n - r * 512) sc) rfl (by kernel_rfl) (by kernel_rfl) (by kernel_rfl) (fun _ _ _ h => h) (Or.inl ⟨by rfl, fun w' hw' => by go_simp⟩) hH ?_
  try simp only [Act.put, List.getElem_toArray, List.getElem_cons_zero, List.getElem_cons_succ, List.setIfInBounds_toArray, List.set_cons_zero, List.set_cons_succ]
  refine wpAnyH_ready (rs := [9]) (by kernel_rfl) (by simp) ?_
  refine AllReadyH.cons (o := _) rfl ?_ AllReadyH.nil
  intro K hK
  refine step_copy_splice rfl (.tmp 5) (.tmp 13) 22 22 rfl 5 Tryd.underlying22 (by kernel_rfl) (some ⟨w.heap.size + 1, 0, none⟩) (some ⟨b2, off2, none⟩) 512 512 (n - r * 512) sc rfl rfl (w.heap.size + 1) 0 ((List.replicate 512 (0 : Int)).map (Value.int .u8)) 136 (show _ from Z2.out) (((cs.drop (r * 512)).take 512).map (Value.int .u8)) HLc.out (fun hp => ⟨rfl, _, rfl, HC.out⟩) (by rw [HLc.out, List.length_map, List.length_replicate, Nat.zero_add]; exact Nat.min_le_right _ _) (fun u hu => by obtain ⟨z, _, rfl⟩ := List.mem_map.1 hu; rfl) (w.heap.size + 1) W2.drew ((Below.refl _ _)) (Nat.le_refl _) ?_
  intro w9 hg9 hb9
  have K9 := hide (show Blk w9 (w.heap.size + 1) ((padB cs r).map (Value.int .u8)).toArray 136 from by rw [← padB_splice]; exact hg9.out)
  have B9 := hide (show Below (w.heap.size + 1) W2 w9 from (Below.refl _ _).drew.trans hb9)
  clear hg9 hb9
  refine hK.out _ _ ⟨?_, ?_⟩ (fun hH => ?_)
  · exact (B9.out.cell (p := ⟨b, 16, none⟩) (show b < w.heap.size + 1 from by have := HBL.out; omega)).trans C16.out
  · exact ((K2.out.below B9.out (by omega)).cell 1).trans rfl
  clear hK K
  try simp only [Act.put, List.getElem_toArray, List.getElem_cons_zero, List.getElem_cons_succ, List.setIfInBounds_toArray, List.set_cons_zero, List.set_cons_succ]
  refine wpAnyH_done (by kernel_rfl) (NoPanic.normal ?_) _
  clear hH
  have HB9 := hide (show Below w.heap.size w w9 from B2.out.trans (B9.out.mono (by omega)))
  have R9 := hide (H.out.below HB9.out)
  have S9 := hide (K2.out.below B9.out (by omega))
  obtain ⟨C9, so9, sl9, fv9, pv9, vs9, hS9⟩ := R9.out
  have T9 := hide hS9
  clear hS9
  have HMs := hide (show (Tryd.prog.info? 136).map (·.size) = some ((padB cs r).map (Value.int .u8)).length from by rw [List.length_map, padB_len]; exact infoBk)
  have HTr := hide (show (Tryd.prog.info? 67).map (·.size) = some D.tr.toList.length from by rw [Array.length_toList, T9.out.trs]; exact infoTrR)
  obtain ⟨ml, hml⟩ : ∃ ml, ml = (padB cs r).map (Value.int .u8) := ⟨_, rfl⟩
  have HML := hide hml
  rw [← hml] at K9 HMs
  obtain ⟨tl, htl⟩ : ∃ tl, tl = D.tr.toList := ⟨_, rfl⟩
  have HTL := hide (show ∀ w', Blk w' b C9 72 → w'.rangeAt b 0 tl from fun w' hw => by rw [htl]; exact T9.out.range hw)
  rw [← htl] at HTr
  have HTE := hide htl
  clear hml htl
  go_wp2_with fail
  refine wp_region_noPanic ?_
  refine wp_region_held_drew (S := fun w' => Blk w' w.heap.size #[.int .i64 (0 : Int), .int .i64 (r : Int)] 113 ∧ Blk w' (w.heap.size + 1) ml.toArray 136 ∧ w'.rangeAt b 0 tl) (by kernel_rfl) ⟨S9.out, K9.out, HTL.out _ T9.out.now.box⟩ (fun hH => ?_)
  refine wpAnyH_take (i := 0) (oi := _) (v := .pointer (some ⟨b, 0, none⟩)) rfl (by kernel_rfl) (by kernel_rfl) (by kernel_rfl) (fun _ _ _ h => h) (Or.inl ⟨by rfl, fun w' hw' => by go_simp⟩) hH ?_
  try simp only [Act.put, List.getElem_toArray, List.getElem_cons_zero, List.getElem_cons_succ, List.setIfInBounds_toArray, List.set_cons_zero, List.set_cons_succ]
  refine wpAnyH_take (i := 1) (oi := _) (v := .agg #[.int .i64 (0 : Int), .int .i64 (r : Int)]) rfl (by kernel_rfl) (by kernel_rfl) (by kernel_rfl) (fun _ _ _ h => h) (yieldsIf_load_mid (by rfl) 113 _ rfl w.heap.size 0 rfl [.int .i64 (0 : Int), .int .i64 (r : Int)] _ (fun w' h => blk_two h.1) Tryd.underlying113 rfl infoSp) hH ?_
  try simp only [Act.put, List.getElem_toArray, List.getElem_cons_zero, List.getElem_cons_succ, List.setIfInBounds_toArray, List.set_cons_zero, List.set_cons_succ]
  refine wpAnyH_take (i := 2) (oi := _) (v := .agg ml.toArray) rfl (by kernel_rfl) (by kernel_rfl) (by kernel_rfl) (fun _ _ _ h => h) (yieldsIf_load_mid (by rfl) 136 _ rfl (w.heap.size + 1) 0 rfl ml _ (fun w' h => blk_range h.2.1) Tryd.underlying136 rfl HMs.out) hH ?_
  try simp only [Act.put, List.getElem_toArray, List.getElem_cons_zero, List.getElem_cons_succ, List.setIfInBounds_toArray, List.set_cons_zero, List.set_cons_succ]
  refine wpAnyH_take (i := 3) (oi := _) (v := .pointer (some ⟨b, 0, none⟩)) rfl (by kernel_rfl) (by kernel_rfl) (by kernel_rfl) (fun _ _ _ h => h) (Or.inl ⟨by rfl, fun w' hw' => by go_simp⟩) hH ?_
  try simp only [Act.put, List.getElem_toArray, List.getElem_cons_zero, List.getElem_cons_succ, List.setIfInBounds_toArray, List.set_cons_zero, List.set_cons_succ]
  refine wpAnyH_take (i := 4) (oi := _) (v := .pointer (some ⟨b, 0, none⟩)) rfl (by kernel_rfl) (by kernel_rfl) (by kernel_rfl) (fun _ _ _ h => h) (Or.inl ⟨by rfl, fun w' hw' => by go_simp⟩) hH ?_
  try simp only [Act.put, List.getElem_toArray, List.getElem_cons_zero, List.getElem_cons_succ, List.setIfInBounds_toArray, List.set_cons_zero, List.set_cons_succ]
  refine wpAnyH_take (i := 5) (oi := _) (v := .pointer (some ⟨b, 0, none⟩)) rfl (by kernel_rfl) (by kernel_rfl) (by kernel_rfl) (fun _ _ _ h => h) (Or.inl ⟨by rfl, fun w' hw' => by go_simp⟩) hH ?_
  try simp only [Act.put, List.getElem_toArray, List.getElem_cons_zero, List.getElem_cons_succ, List.setIfInBounds_toArray, List.set_cons_zero, List.set_cons_succ]
  refine wpAnyH_take (i := 6) (oi := _) (v := .agg tl.toArray) rfl (by kernel_rfl) (by kernel_rfl) (by kernel_rfl) (fun _ _ _ h => h) (yieldsIf_load_mid (by rfl) 67 _ rfl b 0 rfl tl _ (fun w' h => h.2.2) Tryd.underlying67 rfl HTr.out) hH ?_
  try simp only [Act.put, List.getElem_toArray, List.getElem_cons_zero, List.getElem_cons_succ, List.setIfInBounds_toArray, List.set_cons_zero, List.set_cons_succ]
  refine wpAnyH_take (i := 7) (oi := _) (v := .func (.func 73) #[.agg tl.toArray] #[]) rfl (by kernel_rfl) (by kernel_rfl) (by kernel_rfl) (fun _ _ _ h => h) (Or.inl ⟨by rfl, fun w' hw' => by go_simp⟩) hH ?_
  try simp only [Act.put, List.getElem_toArray, List.getElem_cons_zero, List.getElem_cons_succ, List.setIfInBounds_toArray, List.set_cons_zero, List.set_cons_succ]
  refine wpAnyH_take (i := 8) (oi := _) (v := .func (.func 74) #[] #[.pointer (some ⟨w.heap.size + 1, 0, none⟩)]) rfl (by kernel_rfl) (by kernel_rfl) (by kernel_rfl) (fun _ _ _ h => h) (Or.inl ⟨by rfl, fun w' hw' => by go_simp⟩) hH ?_
  try simp only [Act.put, List.getElem_toArray, List.getElem_cons_zero, List.getElem_cons_succ, List.setIfInBounds_toArray, List.set_cons_zero, List.set_cons_succ]
  refine wpAnyH_ready (rs := [9]) (by kernel_rfl) (by simp) ?_
  refine AllReadyH.cons (o := _) rfl ?_ AllReadyH.nil
  intro K hK
  go_simp
  refine (placeB_any W0 _ b 0 r (w.heap.size + 1) D (padB cs r) _ ml.toArray (by rw [HML.out]) (R9.out.below ((Below.refl _ _).drew)) (by omega) (by omega) HS.out.1 HS.out.2.1 HS.out.2.2 (padB_len cs r) (K9.out.below ((Below.refl _ _).drew) K9.out.lt)).mono ?_
  rintro e wA ⟨rfl, rA, yA, bA⟩
  have RA := hide (And.intro rA (And.intro (show FrR b w wA from (((FrR.refl b w).below HB9.out).below ((Below.refl _ _).drew)).trans yA) (show Below W0.heap.size w wA from (HB9.out.mono HLO.out.1).drew.trans bA)))
  have sA : wA.rangeAt b 0 tl := by
    obtain ⟨CA, _, _, _, _, _, hSA⟩ := rA
    have := hSA.range hSA.now.box
    rw [place_tr, ← HTE.out] at this
    exact this
  have s1 := yA.blk (S9.out.below ((Below.refl _ _).drew) S9.out.lt) (by unfold TyR; decide)
  have s2 := yA.blk (K9.out.below ((Below.refl _ _).drew) K9.out.lt) (by unfold TyR; decide)
  clear rA yA bA
  refine hK.out _ _ ⟨s1, s2, sA⟩ (fun hH => ?_)
  clear hK K s1 s2 sA
  try simp only [Act.put, List.getElem_toArray, List.getElem_cons_zero, List.getElem_cons_succ, List.setIfInBounds_toArray, List.set_cons_zero, List.set_cons_succ]
  refine wpAnyH_done (by kernel_rfl) (NoPanic.normal ?_) _
  clear hH
  go_wp2
  go_end0
  exact ⟨rfl, RA.out.1, RA.out.2.1, RA.out.2.2⟩
end Go.Proofs.YtnfgldglpfgmnaaDoor
