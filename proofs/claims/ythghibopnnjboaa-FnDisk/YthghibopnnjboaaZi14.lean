/- The device's sectors: bytes as a row of sectors (sectorsOf). -/
import Derived.Test.YthghibopnnjboaaZi13
import Derived.Laws.CopyRow
import Derived.Deep.RegionHeld3
namespace Go.Proofs.Ythghibopnnjboaa
set_option linter.unusedVariables false
set_option linter.unusedSimpArgs false
open Go.RowKit

theorem infoSecZ : (Try.prog.info? 76).map (fun i => (i.zero, i.size, i.bytes)) = some (some (.agg zSec), 128, 128) := by kernel_rfl
/-- The row while it is filled: so many bytes are there, zeros behind. -/
def fillK (zs : List Int) (n k : Nat) : List Value := (zs.take (k * 128)).map (Value.int .u8) ++ List.replicate ((n - k) * 128) (.int .u8 0)
theorem fillK_len (zs : List Int) (n k : Nat) (hl : zs.length = n * 128) (hk : k ≤ n) : (fillK zs n k).length = n * 128 := by
  have h1 : k * 128 ≤ n * 128 := Nat.mul_le_mul_right _ hk
  have h2 : (n - k) * 128 = n * 128 - k * 128 := Nat.sub_mul _ _ _
  simp only [fillK, List.length_append, List.length_map, List.length_take, List.length_replicate]
  omega
theorem fillK_next (zs : List Int) (n k : Nat) (hl : zs.length = n * 128) (hk : k < n) : splice (fillK zs n k) (k * 128) (((zs.drop (k * 128)).take 128).map (Value.int .u8)) = fillK zs n (k + 1) := by
  have hkn : (k + 1) * 128 ≤ n * 128 := Nat.mul_le_mul_right _ hk
  rw [Nat.add_mul, Nat.one_mul] at hkn
  have hp := part_len hl hk
  have ht : ((zs.take (k * 128)).map (Value.int .u8)).length = k * 128 := by rw [List.length_map, List.length_take]; omega
  have h2 : (n - k) * 128 = 128 + (n - (k + 1)) * 128 := by
    rw [show n - k = (n - (k + 1)) + 1 by omega, Nat.add_mul, Nat.one_mul, Nat.add_comm]
  obtain ⟨A, hA⟩ : ∃ A, A = (zs.take (k * 128)).map (Value.int .u8) := ⟨_, rfl⟩
  obtain ⟨Bq, hB⟩ : ∃ B, B = ((zs.drop (k * 128)).take 128).map (Value.int .u8) := ⟨_, rfl⟩
  have hBl : Bq.length = 128 := by rw [hB, List.length_map, hp]
  have hn1 : fillK zs n (k + 1) = A ++ (Bq ++ List.replicate ((n - (k + 1)) * 128) (.int .u8 0)) := by
    unfold fillK
    rw [← part_next, List.map_append, List.append_assoc, hA, hB]
  have h0 : fillK zs n k = A ++ List.replicate (128 + (n - (k + 1)) * 128) (.int .u8 0) := by
    unfold fillK
    rw [h2, hA]
  rw [← hB, h0, hn1]
  rw [← hA] at ht
  unfold splice
  rw [hBl, List.take_append_of_le_length (by omega), List.take_of_length_le (by omega), List.drop_append, ht]
  rw [List.drop_of_length_le (l := A) (by omega), List.nil_append, show k * 128 + 128 - k * 128 = 128 by omega, List.drop_replicate, show 128 + (n - (k + 1)) * 128 - 128 = (n - (k + 1)) * 128 by omega]
theorem own_fill {w : World} {g n : Nat} {zs : List Int} (hl : zs.length = n * 128) (hn : n ≤ 100000) (h : w.heap[g]? = some (.cells (fillK zs n n).toArray 76 (0, 0))) : w.ownsRow g 76 128 (.slice (some ⟨g, 0, none⟩) n n) n (zs.map (Value.int .u8)) := by
  have hf : fillK zs n n = zs.map (Value.int .u8) := by unfold fillK; rw [Nat.sub_self, Nat.zero_mul, List.replicate_zero, List.append_nil, List.take_of_length_le (by omega)]
  rw [hf] at h
  exact ⟨by rw [List.length_map, hl], .inr ⟨g, n, _, rfl, Nat.le_refl _, h, Nat.le_refl _, by unfold maxLen; omega, by simp [hl], by rw [List.take_of_length_le (by simp [hl])]⟩⟩
theorem madeSec (n : Nat) : (madeCells (Value.agg zSec).cells (n * 128)).toList = List.replicate (n * 128) (.int .u8 0) := by
  apply List.ext_getElem (by simp [madeCells])
  intro i h1 h2
  have h3 : i % 128 < 128 := Nat.mod_lt _ (by decide)
  simp [madeCells, Value.cells, zSec, h3]
theorem fillK_zero (zs : List Int) (n : Nat) : fillK zs n 0 = List.replicate (n * 128) (.int .u8 0) := by simp [fillK]
set_option maxRecDepth 100000 in
theorem slice_pieceK {w0 : World} {a : Option Addr} {len cap : Nat} {zs : List Int} (h : Rd .u8 w0 (.slice a len cap) zs) (lo hi : Nat) (h1 : lo ≤ hi) (h2 : hi ≤ zs.length) :
    ∃ a' c', Rd .u8 w0 (.slice a' (hi - lo) c') ((zs.drop lo).take (hi - lo)) ∧ ∀ wx, (Instr.slice 22 (.slice a len cap) (some (.int .i64 (lo : Int))) (some (.int .i64 (hi : Int))) none).run Try.prog wx = .ok (.slice a' (hi - lo) c') wx := by
  obtain ⟨i0, hi0, hz0, hz1, hz2⟩ := info_parts infoU8
  obtain ⟨a0, cap0, e, hm, hc, hl, hcm⟩ := h
  injection e with e1 e2 e3
  subst e1 e2 e3
  have hlen : ((zs.drop lo).take (hi - lo)).length = hi - lo := by rw [List.length_take, List.length_drop]; omega
  have hrun : ∀ wx, (Instr.slice 22 (.slice a zs.length cap) (some (.int .i64 (lo : Int))) (some (.int .i64 (hi : Int))) none).run Try.prog wx = .ok (sliced a lo hi cap 1) wx := fun wx => by
    rw [run_slice_lh (P := Try.prog) (w := wx) 22 a zs.length cap (by rw [Try.underlying22]; rfl) .i64 .i64 (lo : Int) (hi : Int) (by omega) (by omega) (by omega)]
    simp [sizeOf, typeInfo, show Try.prog.elem 22 = 5 from by kernel_rfl, hi0, hz1, Result.andThen]
  refine ⟨_, _, ?_, hrun⟩
  refine ⟨_, _, by rw [hlen], by omega, fun hne => ?_, by rw [hlen]; omega, by omega⟩
  have hp : lo < zs.length := by
    rcases Nat.lt_or_ge lo zs.length with h | h
    · exact h
    · exact absurd (by rw [List.drop_eq_nil_of_le h]; simp) hne
  obtain ⟨b, off, rfl, hb, hcell⟩ := hc (fun e => by rw [e] at hp; simp at hp)
  refine ⟨b, off + lo, ?_, hb, fun i hi2 => ?_⟩
  · rw [if_neg (by omega), Option.map_some, Nat.mul_one, Addr.add_mid]
  · rw [hlen] at hi2
    rw [Nat.add_assoc, hcell (lo + i) (by omega)]
    simp [List.getD, hi2]
set_option maxRecDepth 100000 in
theorem slice_pieceKL {w0 : World} {a : Option Addr} {len cap : Nat} {zs : List Int} (h : Rd .u8 w0 (.slice a len cap) zs) (lo : Nat) (h2 : lo ≤ zs.length) :
    ∃ a' c', Rd .u8 w0 (.slice a' (zs.length - lo) c') (zs.drop lo) ∧ ∀ wx, (Instr.slice 22 (.slice a len cap) (some (.int .i64 (lo : Int))) none none).run Try.prog wx = .ok (.slice a' (zs.length - lo) c') wx := by
  obtain ⟨a', c', hr, hrun⟩ := slice_pieceK h lo zs.length h2 (Nat.le_refl _)
  have hl : len = zs.length := by obtain ⟨_, _, e, _⟩ := h; injection e
  obtain ⟨_, _, e0, _, _, hl2, hcm⟩ := h
  injection e0 with e1 e2 e3
  subst e3
  rw [List.take_of_length_le (by rw [List.length_drop]; omega)] at hr
  refine ⟨a', c', hr, fun wx => ?_⟩
  rw [← hrun wx, run_slice_l (P := Try.prog) (w := wx) 22 a len cap (by rw [Try.underlying22]; rfl) .i64 (lo : Int) (by omega) (by omega), run_slice_lh (P := Try.prog) (w := wx) 22 a len cap (by rw [Try.underlying22]; rfl) .i64 .i64 (lo : Int) (zs.length : Int) (by omega) (by omega) (by omega)]
  rw [Int.toNat_natCast, hl, Int.toNat_natCast]
theorem wrapK (z : Int) (h0 : 0 ≤ z) (h1 : z ≤ 100000000) : IntKind.i64.wrap z = z := by rw [IntKind.wrap_i64]; omega
theorem infoU1 : (Try.prog.info? 5).map (·.size) = some 1 := by kernel_rfl
set_option maxRecDepth 100000 in
set_option maxHeartbeats 4000000 in
theorem sectorsOf_any (v : Value) (n : Nat) (zs : List Int) (w : World) (h : Rd .u8 w v zs) (hl : zs.length = n * 128) (hn : n ≤ 100000) :
    Calls Try.prog 42 #[v] w fun e w' => ∃ v', e = .returned v' ∧ w'.ownsRow w.heap.size 76 128 v' n (zs.map (Value.int .u8)) ∧ Below w.heap.size w w' := by
  obtain ⟨i0, hi, hz0, hz1, hz2⟩ := info_parts infoSecZ
  obtain ⟨a, cap, rfl⟩ : ∃ a cap, v = .slice a zs.length cap := by obtain ⟨a, cap, e, _⟩ := h; exact ⟨a, cap, e⟩
  have HR := hide h
  have HL := hide hl
  have HLI := hide (show (zs.length : Int) / 128 = (n : Int) by omega)
  clear h
  obtain ⟨zl, hzl⟩ : ∃ zl, zl = zs.length := ⟨_, rfl⟩
  rw [← hzl] at HR HLI ⊢
  have HZL := hide hzl
  have hzb : zl ≤ 12800000 := by omega
  clear hzl hl
  go_enter Try.func42, Try.ntmps42
  go_wp2_with (first | (refine wpList_make_full _ rfl _ _ 58 rfl w.heap.size 76 i0 (.agg zSec) 128 Try.underlying58 hi hz0 hz1 .i64 .i64 (n : Int) (n : Int) n (by rw [← HLI.out]; rfl) (by rw [← HLI.out]; rfl) rfl rfl (by rw [hz2]; omega) (by unfold maxLen; omega) (Nat.le_refl _) ?_; intro w3 hown3 hgr3) | fail)
  have K3 := hide (show w3.heap[w.heap.size]? = some (.cells (fillK zs n 0).toArray 76 (0, 0)) from by
    rcases hown3.2 with ⟨e, _⟩ | ⟨g, cp, cur, e, _, hg, _, _, hs, ht⟩
    · cases e
    · injection e with e1 e2 e3
      injection e1 with e1
      injection e1 with e1 _
      subst e1
      subst e3
      rw [hg, fillK_zero, ← madeSec n, ← ht, List.take_of_length_le (by simp [hs])])
  have B3 := hide (show Below w.heap.size w w3 from (Below.refl _ _).grown hgr3 (Nat.le_refl _) (fun k e => by cases e))
  clear hown3 hgr3
  go_loopw [11] (fun iv wx => ∃ k : Nat, k ≤ n ∧ iv = .int .i64 (k : Int) ∧ wx.heap[w.heap.size]? = some (.cells (fillK zs n k).toArray 76 (0, 0)) ∧ Below w.heap.size w wx) (fun iv _ => n - (intOf iv).toNat)
  case atStart => exact ⟨0, by omega, rfl, K3.out, B3.out⟩
  case round =>
    clear K3 B3
    obtain ⟨k, hk, rfl, hc, hb⟩ := hrel
    have HK := hide (And.intro hc hb)
    clear hc hb
    by_cases hkn : k < n
    · have hkI : (k : Int) < (n : Int) := by omega
      have hk1 : (k + 1) * 128 ≤ n * 128 := Nat.mul_le_mul_right _ hkn
      rw [Nat.add_mul, Nat.one_mul] at hk1
      have hkz : k * 128 + 128 ≤ zl := by rw [HZL.out, HL.out]; exact hk1
      obtain ⟨sa, sc, hsr, hsl⟩ := slice_pieceKL HR.out (k * 128) (by rw [← HZL.out]; omega)
      rw [← HZL.out] at hsr hsl
      obtain ⟨b2, off2, c2, hsv, hb2, _, _, hcell⟩ := hsr.partsC (by rw [List.length_drop, ← HZL.out]; omega)
      injection hsv with e1 e2 e3
      subst e1
      subst e3
      clear e2
      obtain ⟨P, hP⟩ : ∃ P, P = ((zs.drop (k * 128)).take 128).map (Value.int .u8) := ⟨_, rfl⟩
      have hPl : P.length = 128 := by rw [hP, List.length_map]; exact part_len HL.out hkn
      have HX := hide (show (fillK zs n k).take (k * 128) ++ P ++ (fillK zs n k).drop (k * 128 + P.length) = fillK zs n (k + 1) by rw [← fillK_next zs n k HL.out hkn, ← hP]; unfold splice; rw [List.append_assoc])
      have hcp := run_copy_row (P := Try.prog) wr.drew 22 22 3 5 w.heap.size (k * 128) 128 128 ⟨b2, off2, none⟩ (zl - k * 128) sc (fillK zs n k).toArray 76 P Try.underlying22 infoU1 HK.out.1 (by rw [hPl]; exact (Nat.min_eq_right (by omega)).symm) (by
        intro j u hj
        rw [Addr.add_mid]
        have hj2 : j < 128 := by
          rcases Nat.lt_or_ge j 128 with h | h
          · exact h
          · rw [List.getElem?_eq_none (by omega)] at hj; cases hj
        refine ((HK.out.2.drew).cell (p := ⟨b2, off2 + j, none⟩) hb2).trans ?_
        rw [hcell j (by rw [List.length_drop, ← HZL.out]; omega), ← hj, hP, List.getElem?_map, List.getElem?_take, if_pos hj2, List.getElem?_drop, List.getElem?_eq_getElem (by rw [← HZL.out]; omega)]
        simp [List.getD, show k * 128 + j < zs.length by rw [← HZL.out]; omega]) (by rw [hPl, List.size_toArray, fillK_len zs n k HL.out hk, ← HL.out, ← HZL.out]; omega) (by rw [hP]; exact ints_oneCell _ _)
      rw [List.toList_toArray, HX.out, hPl] at hcp
      have H4 := hide (show (wr.drew.setRow w.heap.size (fillK zs n (k + 1)).toArray).heap[w.heap.size]? = some (.cells (fillK zs n (k + 1)).toArray 76 (0, 0)) ∧ Below w.heap.size w (wr.drew.setRow w.heap.size (fillK zs n (k + 1)).toArray) from ⟨Blk.row (w := wr.drew) (show Blk wr.drew w.heap.size (fillK zs n k).toArray 76 from HK.out.1) _, below_setRow HK.out.2.drew (Nat.le_refl _) _⟩)
      have hsl2 : ∀ (wx : World), (Instr.slice 22 (.slice a zl cap) (some (.int .i64 ((k : Int) * 128))) none none).run Try.prog wx = .ok (.slice (some ⟨b2, off2, none⟩) (zl - k * 128) sc) wx := fun wx => by
        have := hsl wx
        rw [show ((k * 128 : Nat) : Int) = (k : Int) * 128 by omega] at this
        exact this
      clear hsr hcell hP hPl hsl
      go_upto_region 5 with fail
      refine wp_region_noPanic ?_
      refine wp_region_held_drew (S := fun _ => True) (by kernel_rfl) trivial (fun hH => ?_)
      refine wpAnyH_take (i := 0) (oi := _) (v := .slice (some ⟨w.heap.size, 0, none⟩) n n) rfl (by kernel_rfl) (by kernel_rfl) (by kernel_rfl) (fun _ _ _ h => h) (Or.inl ⟨by rfl, fun w' hw' => by go_simp⟩) hH ?_
      try simp only [Act.put, List.getElem_toArray, List.getElem_cons_zero, List.getElem_cons_succ, List.setIfInBounds_toArray, List.set_cons_zero, List.set_cons_succ]
      refine wpAnyH_take (i := 1) (oi := _) (v := .int .i64 (k : Int)) rfl (by kernel_rfl) (by kernel_rfl) (by kernel_rfl) (fun _ _ _ h => h) (Or.inl ⟨by rfl, fun w' hw' => by go_simp⟩) hH ?_
      try simp only [Act.put, List.getElem_toArray, List.getElem_cons_zero, List.getElem_cons_succ, List.setIfInBounds_toArray, List.set_cons_zero, List.set_cons_succ]
      refine wpAnyH_take (i := 2) (oi := _) (v := .pointer (some ⟨w.heap.size, k * 128, none⟩)) rfl (by kernel_rfl) (by kernel_rfl) (by kernel_rfl) (fun _ _ _ h => h) (Or.inl ⟨by rfl, fun w' hw' => by go_simp⟩) hH ?_
      try simp only [Act.put, List.getElem_toArray, List.getElem_cons_zero, List.getElem_cons_succ, List.setIfInBounds_toArray, List.set_cons_zero, List.set_cons_succ]
      refine wpAnyH_take (i := 3) (oi := _) (v := .slice (some ⟨w.heap.size, k * 128, none⟩) 128 128) rfl (by kernel_rfl) (by kernel_rfl) (by kernel_rfl) (fun _ _ _ h => h) (Or.inl ⟨by rfl, fun w' hw' => by go_simp⟩) hH ?_
      try simp only [Act.put, List.getElem_toArray, List.getElem_cons_zero, List.getElem_cons_succ, List.setIfInBounds_toArray, List.set_cons_zero, List.set_cons_succ]
      refine wpAnyH_take (i := 4) (oi := _) (v := .slice a zl cap) rfl (by kernel_rfl) (by kernel_rfl) (by kernel_rfl) (fun _ _ _ h => h) (Or.inl ⟨by rfl, fun w' hw' => by go_simp⟩) hH ?_
      try simp only [Act.put, List.getElem_toArray, List.getElem_cons_zero, List.getElem_cons_succ, List.setIfInBounds_toArray, List.set_cons_zero, List.set_cons_succ]
      refine wpAnyH_take (i := 5) (oi := _) (v := .int .i64 (k : Int)) rfl (by kernel_rfl) (by kernel_rfl) (by kernel_rfl) (fun _ _ _ h => h) (Or.inl ⟨by rfl, fun w' hw' => by go_simp⟩) hH ?_
      try simp only [Act.put, List.getElem_toArray, List.getElem_cons_zero, List.getElem_cons_succ, List.setIfInBounds_toArray, List.set_cons_zero, List.set_cons_succ]
      refine wpAnyH_take (i := 6) (oi := _) (v := .int .i64 ((k : Int) * 128)) rfl (by kernel_rfl) (by kernel_rfl) (by kernel_rfl) (fun _ _ _ h => h) (Or.inl ⟨by rfl, fun w' hw' => by have hw6 := wrapK ((k : Int) * 128) (by omega) (by omega); go_simp⟩) hH ?_
      try simp only [Act.put, List.getElem_toArray, List.getElem_cons_zero, List.getElem_cons_succ, List.setIfInBounds_toArray, List.set_cons_zero, List.set_cons_succ]
      refine wpAnyH_take (i := 7) (oi := _) (v := .slice (some ⟨b2, off2, none⟩) (zl - k * 128) sc) rfl (by kernel_rfl) (by kernel_rfl) (by kernel_rfl) (fun _ _ _ h => h) (Or.inl ⟨by rfl, fun w' hw' => by go_simp⟩) hH ?_
      try simp only [Act.put, List.getElem_toArray, List.getElem_cons_zero, List.getElem_cons_succ, List.setIfInBounds_toArray, List.set_cons_zero, List.set_cons_succ]
      refine wpAnyH_ready (rs := [8]) (by kernel_rfl) (by simp) ?_
      refine AllReadyH.cons (o := _) rfl (fun K hK => ?_) AllReadyH.nil
      go_simp
      refine hK.out _ _ trivial (fun hH => ?_)
      clear hK K hcp hsl2
      try simp only [Act.put, List.getElem_toArray, List.getElem_cons_zero, List.getElem_cons_succ, List.setIfInBounds_toArray, List.set_cons_zero, List.set_cons_succ]
      refine wpAnyH_done (by kernel_rfl) (NoPanic.normal ?_) _
      go_wp2
      go_roundw
      case rel => exact ⟨k + 1, by omega, by go_num, H4.out.1, H4.out.2⟩
      case measure => simp [intOf]; omega
    · have hkn2 : k = n := by omega
      subst hkn2
      have q1 : ¬ ((k : Int) < (k : Int)) := by omega
      go_wp2
      go_ret
      exact ⟨_, rfl, own_fill HL.out hn HK.out.1, HK.out.2⟩
end Go.Proofs.Ythghibopnnjboaa
