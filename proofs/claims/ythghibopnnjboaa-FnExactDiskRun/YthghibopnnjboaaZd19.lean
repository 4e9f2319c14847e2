/- The device's sectors: bytesOf. -/
import Derived.Test.YthghibopnnjboaaZd18
import Derived.Great.Walk
namespace Go.Proofs.Ythghibopnnjboaa
set_option linter.unusedVariables false
set_option linter.unusedSimpArgs false
open Go.RowKit

theorem run_allocSec (ρ : Operand → Value) (o : Oper) (ho : o.op = .alloc 76) (w : World) : (execOp ρ o).run Try.prog w = .ok (.value (.pointer (some ⟨w.heap.size, 0, none⟩))) (w.alloc (.cells zSec 76)) := by
  simp [execOp, ho, allocSec, Result.andThen]
theorem shape_rowK {w : World} {base : Nat} {e : TypeId} {sz : Nat} {v : Value} {n : Nat} {xs : List Value} (h : w.ownsRow base e sz v n xs) : ∃ a cap, v = .slice a n cap := by
  rcases h.2 with ⟨rfl, rfl⟩ | ⟨g, cap, _, rfl, _⟩
  · exact ⟨_, _, rfl⟩
  · exact ⟨_, _, rfl⟩
theorem cells_newK (w : World) (C : Array Value) (t : TypeId) : ∀ j u, C.toList[j]? = some u → (w.alloc (.cells C t)).cell? (Addr.add ⟨w.heap.size, 0, none⟩ j) = some u := by
  intro j u hj
  have h := (Blk.new w C t).cell j
  rw [Addr.add_mid, Nat.zero_add, h]
  simpa using hj
set_option maxRecDepth 100000 in
set_option maxHeartbeats 4000000 in
theorem bytesOf_any (v : Value) (n : Nat) (zs : List Int) (w : World) (h : RdK w v n zs) :
    Calls Try.prog 28 #[v] w fun e w' => ∃ v', e = .returned v' ∧ w'.ownsRow w.heap.size 5 1 v' (n * 128) (zs.map (Value.int .u8)) ∧ Below w.heap.size w w' := by
  obtain ⟨i0, hi, hz0, hz1, hz2⟩ := info_parts infoU8
  obtain ⟨a, cap, rfl, hl, hn, hc⟩ := h
  have HC := hide hc
  have HL := hide hl
  clear hc hl
  obtain ⟨Z, hZ⟩ : ∃ Z : Array Value, Z = zSec := ⟨_, rfl⟩
  have HAl := hide (show ∀ (ρ : Operand → Value) (o : Oper) (w : World), o.op = .alloc 76 → (execOp ρ o).run Try.prog w = .ok (.value (.pointer (some ⟨w.heap.size, 0, none⟩))) (w.alloc (.cells Z 76)) from fun ρ o w ho => by rw [hZ]; exact run_allocSec ρ o ho w)
  have hZs : Z.size = 128 := by rw [hZ]; simp [zSec]
  have HZ := hide hZs
  clear hZ hZs
  obtain ⟨N, hN⟩ : ∃ N : Nat, (n : Int) * 128 = (N : Int) := ⟨n * 128, by omega⟩
  have HN := hide (show N = n * 128 by omega)
  have hN3 : N ≤ 12800000 := by omega
  go_enter Try.func28, Try.ntmps28
  go_wp2_with (first | (refine wpList_make_own _ rfl _ _ 22 rfl w.heap.size 5 i0 (.int .u8 0) 1 Try.underlying22 hi hz0 hz1 .i64 .i64 (N : Int) N rfl rfl rfl (by rw [hz2]; omega) (by unfold maxLen; omega) (Nat.le_refl _) ?_; intro w3 hown3 hgr3) | fail)
  have O3 := hide hown3
  have B3 := hide (show Below w.heap.size w w3 from (Below.refl _ _).grown hgr3 (Nat.le_refl _) (fun k e => by cases e))
  clear hown3 hgr3
  go_wp2
  go_loopw [3, 12] (fun ov iv wx => ∃ (k : Nat) (oa : Option Addr) (oc M : Nat), k ≤ n ∧ M = k * 128 ∧ iv = .int .i64 (k : Int) ∧ ov = .slice oa M oc ∧ wx.ownsRow w.heap.size 5 1 ov (k * 128) ((zs.take (k * 128)).map (Value.int .u8)) ∧ Below w.heap.size w wx) (fun _ iv _ => n - (intOf iv).toNat)
  case atStart => exact ⟨0, _, _, 0, by omega, by omega, rfl, rfl, by simpa using O3.out, B3.out⟩
  case round =>
    clear O3 B3
    obtain ⟨k, oa, oc, M, hk, hM, rfl, rfl, ho, hb⟩ := hrel
    rw [← hM] at ho
    have HM := hide hM
    have hMb : M ≤ 12800000 := by omega
    clear hM
    have HO := hide (And.intro ho hb)
    clear ho hb
    by_cases hkn : k < n
    · obtain ⟨b, off, rfl, hbl, hcell⟩ := HC.out (by omega)
      have hkI : (k : Int) < (n : Int) := by omega
      obtain ⟨P, hP⟩ : ∃ P : List Int, P = (zs.drop (k * 128)).take 128 := ⟨_, rfl⟩
      have hPl : P.length = 128 := by rw [hP]; exact part_len HL.out hkn
      have HR := hide (show wr.rangeAt b (off + k * 128) (P.map (Value.int .u8)) by rw [hP]; exact part_range HL.out (fun i hi => (HO.out.2.cell (p := ⟨b, off + i, none⟩) hbl).trans (hcell i hi)) k hkn)
      have BA := hide (show Below wr.heap.size wr (wr.alloc (.cells (P.map (Value.int .u8)).toArray 76)) from (Below.refl _ _).alloc (Nat.le_refl _) _)
      obtain ⟨W3, hW3⟩ : ∃ W3, W3 = (wr.alloc (.cells Z 76)).setRow wr.heap.size (P.map (Value.int .u8)).toArray := ⟨_, rfl⟩
      have B3 := hide (show Below wr.heap.size wr W3 from by rw [hW3]; exact below_setRow ((Below.refl _ _).alloc (Nat.le_refl _) _) (Nat.le_refl _) _)
      have K3 := hide (show Blk W3 wr.heap.size (P.map (Value.int .u8)).toArray 76 from by rw [hW3]; exact (Blk.new wr Z 76).row _)
      have KN := hide (Blk.new wr Z 76)
      have HW3 := hide hW3
      have H1 := hide (show (P.map (Value.int .u8)).toArray.all (·.oneCell') = true by simp [Value.oneCell'])
      have HPl := hide hPl
      have HP := hide hP
      have HSZ := hide (show Z.size = (P.map (Value.int .u8)).toArray.size by rw [HZ.out]; simp [hPl])
      have HIN := hide (show (Try.prog.info? 76).map (·.size) = some (P.map (Value.int .u8)).toArray.size by rw [infoSec]; simp [hPl])
      clear hP hPl
      clear hW3 hcell BA
      go_upto_region 5 with (first
        | (refine wpList_load_mid rfl 76 _ rfl b (off + k * 128) rfl (P.map (Value.int .u8)) _ HR.out Try.underlying76 rfl (by rw [List.length_map, HPl.out]; exact infoSec) ?_)
        | (refine Great.wpList_allocTo rfl (some 5) rfl (.pointer (some ⟨wr.heap.size, 0, none⟩)) (.cells Z 76) (HAl.out _ _ _ rfl) ?_)
        | (refine wpList_store_row rfl 76 _ _ rfl wr.heap.size (P.map (Value.int .u8)).toArray rfl rfl 76 Z KN.out HIN.out HSZ.out H1.out ?_)
        | fail)
      rw [← HW3.out]
      have O3 := hide (own_below HO.out.1 B3.out)
      have hs3 := B3.out.size
      have hsw := HO.out.2.size
      go_wp2_with (first
        | (at_builtin; refine wpList_append_own_at _ rfl (.tmp 16) (.tmp 17) 22 rfl w.heap.size 5 i0 (.int .u8 0) 1 1 Try.underlying22 hi hz0 hz1 hz2 rfl (by decide) (.slice oa M oc) M _ rfl O3.out ⟨wr.heap.size, 0, none⟩ 128 128 (P.map (Value.int .u8)) rfl (by rw [List.length_map, HPl.out]) (fun j u hj => by rw [Addr.add_mid, Nat.zero_add, K3.out.cell j]; simpa using hj) (ints_oneCell _ _) (by unfold maxLen; omega) (by omega) (by omega) ?_; intro v4 w4 o4 g4 _ _; obtain ⟨oa4, oc4, rfl⟩ := shape_rowK o4; have O4 := hide (And.intro o4 g4); clear o4 g4)
        | fail)
      have B4 := hide (show Below w.heap.size w w4 from (HO.out.2.trans (B3.out.mono hsw)).grown O4.out.2 (by omega) (fun r e => (O3.out.lt r e).1))
      have HN4 := hide (show (zs.take M).map (Value.int .u8) ++ P.map (Value.int .u8) = (zs.take ((k + 1) * 128)).map (Value.int .u8) by rw [← List.map_append, HP.out, HM.out, part_next])
      go_roundw
      case rel => exact ⟨k + 1, oa4, oc4, M + 128, by omega, by have := HM.out; omega, by go_num, rfl, by rw [← HN4.out, show (k + 1) * 128 = M + 128 by have := HM.out; omega]; exact O4.out.1, B4.out⟩
      case measure => simp [intOf]; omega
    · have hkn2 : k = n := by omega
      subst hkn2
      have q1 : ¬ ((k : Int) < (k : Int)) := by omega
      go_wp2
      go_ret
      refine ⟨_, rfl, ?_, HO.out.2⟩
      have h1 := HO.out.1
      rw [List.take_of_length_le (by rw [HL.out, HM.out]; omega)] at h1
      rw [← HM.out]
      exact h1
end Go.Proofs.Ythghibopnnjboaa
