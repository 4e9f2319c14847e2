/- A block drawn: Block. The device's sectors: a row of sectors as bytes (bytesOf). The device's sectors: bytesOf. -/
import Derived.Test.YthghibopnnjboaaZi12
import Derived.Test.YthghibopnnjboaaZi02
import Derived.Deep.MidRow
import Derived.Laws.Tables
import Derived.Laws.CopyOwn
import Derived.Maps.AppendAt
import Derived.Deep.DeepCutAuto
import Derived.Great.Walk
namespace Go.Proofs.Ythghibopnnjboaa
set_option linter.unusedVariables false
set_option linter.unusedSimpArgs false
open Go.RowKit

theorem own_setB {w : World} {base g n cap k : Nat} {e : TypeId} {zs : List Int} (h : w.ownsRow base e 1 (.slice (some ⟨g, 0, none⟩) n cap) n (zs.map (Value.int .u8))) (d : Int) : (w.setCell ⟨g, k, none⟩ (.int .u8 d)).ownsRow base e 1 (.slice (some ⟨g, 0, none⟩) n cap) n ((zs.set k d).map (Value.int .u8)) := by
  rcases h.2 with ⟨e1, _⟩ | ⟨g', cap', cur, e1, hb, hc, hn, hm, hs, ht⟩
  · cases e1
  · injection e1 with e1 e2 e3
    injection e1 with e1
    injection e1 with e1 e4
    subst e1
    subst e3
    refine ⟨by simpa using h.1, .inr ⟨g, cap, cur.setIfInBounds k (.int .u8 d), rfl, hb, heap_setCell_same w g k cur e _ hc, hn, hm, by simpa using hs, ?_⟩⟩
    rw [Array.toList_setIfInBounds, List.take_set, ht, List.map_set]
theorem own_cellB {w : World} {base g n cap k : Nat} {e : TypeId} {zs : List Int} (h : w.ownsRow base e 1 (.slice (some ⟨g, 0, none⟩) n cap) n (zs.map (Value.int .u8))) (hk : k < n) : (∃ y : Value, w.cell? ⟨g, k, none⟩ = some y) ∧ w.frozen? ⟨g, k, none⟩ = false := by
  rcases h.2 with ⟨e1, _⟩ | ⟨g', cap', cur, e1, hb, hc, hn, hm, hs, ht⟩
  · cases e1
  · injection e1 with e1 e2 e3
    injection e1 with e1
    injection e1 with e1 e4
    subst e1
    have hB : Blk w g cur _ := hc
    refine ⟨⟨_, (hB.cell k).trans (Array.getElem?_eq_getElem (by rw [hs]; omega))⟩, hB.frozen _⟩
theorem own_baseB {w : World} {base g n cap : Nat} {e : TypeId} {xs : List Value} (h : w.ownsRow base e 1 (.slice (some ⟨g, 0, none⟩) n cap) n xs) : base ≤ g := (h.lt g rfl).1
theorem Byt.put {zs : List Int} {d : Int} (h : Byt zs) (k : Nat) (h0 : 0 ≤ d) (h1 : d < 256) : Byt (zs.set k d) := by
  intro y hy
  rcases List.mem_or_eq_of_mem_set hy with hy | rfl
  · exact h y hy
  · exact ⟨h0, h1⟩
theorem Dn.put {w0 W wr : World} {b g k : Nat} {cv : Value} {cs : List Int} (h : Dn w0 W wr b cv cs) (hg : W.heap.size ≤ g) (u : Value) : Dn w0 W (wr.setCell ⟨g, k, none⟩ u) b cv cs := h.own ((Below.refl _ _).setCell (p := ⟨g, k, none⟩) hg u)
theorem make512f (w : World) : (Instr.makeSlice 22 (.int .i64 512) (.int .i64 512)).run Try.prog w = .ok (.slice (some ⟨w.heap.size, 0, none⟩) 512 512) (w.alloc (.cells (Array.replicate 512 (.int .u8 0)) 5)) := by kernel_rfl
theorem zeros512 : (Array.replicate 512 (Value.int .u8 0)).toList = (List.replicate 512 (0 : Int)).map (Value.int .u8) := by rw [Array.toList_replicate, List.map_replicate]

set_option maxRecDepth 100000 in
set_option maxHeartbeats 4000000 in
theorem block_drawn {w0 W : World} {b : Nat} {cv : Value} {cs : List Int} (h : Sc w0 W b cv cs) :
    Calls Try.prog 8 #[.pointer (some ⟨b, 0, none⟩)] W fun e w' => ∃ (v : Value) (zs : List Int), e = .returned v ∧ zs.length = 512 ∧ Byt zs ∧ w'.ownsRow W.heap.size 5 1 v 512 (zs.map (Value.int .u8)) ∧ Sc w0 w' b cv cs ∧ W.grownBy w' (some b) := by
  obtain ⟨Z, hZ⟩ : ∃ Z : Array Value, Z = Array.replicate 512 (.int .u8 0) := ⟨_, rfl⟩
  obtain ⟨zs, hzs⟩ : ∃ zs : List Int, zs = List.replicate 512 0 := ⟨_, rfl⟩
  have HZ := hide (And.intro (show zs.length = 512 by rw [hzs]; simp) (show Byt zs by rw [hzs]; intro z hz; rw [List.eq_of_mem_replicate hz]; omega))
  have hmk : ∀ w : World, (Instr.makeSlice 22 (.int .i64 512) (.int .i64 512)).run Try.prog w = .ok (.slice (some ⟨w.heap.size, 0, none⟩) 512 512) (w.alloc (.cells Z 5)) := fun w => by rw [hZ]; exact make512f w
  have H0 := hide (show Dn w0 W (W.alloc (.cells Z 5)) b cv cs ∧ (W.alloc (.cells Z 5)).ownsRow W.heap.size 5 1 (.slice (some ⟨W.heap.size, 0, none⟩) 512 512) 512 (zs.map (Value.int .u8)) from
    ⟨(Dn.start h).own ((Below.refl _ _).alloc (Nat.le_refl _) _), by
      have h1 := World.ownsRow_lit (base := W.heap.size) (e := 5) (size := 1) W Z 512 (Nat.le_refl _) (by unfold maxLen; omega) (by rw [hZ]; simp)
      rw [hzs, ← zeros512, ← hZ]
      exact h1⟩)
  clear h hZ hzs
  go_enter Try.func8, Try.ntmps8
  go_wp2_with fail
  refine (H0.out.1.sc.N 4 (by omega) (by omega)).mono ?_
  rintro e w1 ⟨z, rfl, hz0, hz1, s1, d1⟩
  have H1 := hide (And.intro (H0.out.1.draw s1 d1) (H0.out.1.row H0.out.2 d1 (Nat.le_refl _)))
  clear s1 d1 H0 hmk
  have hz : z = 0 ∨ z = 1 ∨ ((z == 0) = false ∧ (z == 1) = false) := by
    rcases (by omega : z = 0 ∨ z = 1 ∨ 2 ≤ z) with h | h | h
    · exact .inl h
    · exact .inr (.inl h)
    · exact .inr (.inr ⟨by simp; omega, by simp; omega⟩)
  clear hz0 hz1
  rcases hz with rfl | rfl | ⟨n0, n1⟩
  · go_wp2
    go_ret
    exact ⟨_, zs, rfl, HZ.out.1, HZ.out.2, H1.out.2, H1.out.1.sc, H1.out.1.gb⟩
  · go_wp2_with fail
    refine (bytes_drawn H1.out.1.sc 512 (by omega)).mono ?_
    rintro e w2 ⟨v, ys, rfl, hl, hB, ho, s2, d2⟩
    have H2 := hide (H1.out.1.draw s2 d2)
    have HY := hide (And.intro hl (And.intro hB (own_mono ho H1.out.1.gb.size)))
    clear s2 d2 hl hB ho
    go_wp2
    go_ret
    exact ⟨_, ys, rfl, HY.out.1, HY.out.2.1, HY.out.2.2, H2.out.sc, H2.out.gb⟩
  · go_wp2_with fail
    refine (H1.out.1.sc.N 3 (by omega) (by omega)).mono ?_
    rintro e w2 ⟨c, rfl, hc0, hc1, s2, d2⟩
    have H2 := hide (And.intro (H1.out.1.draw s2 d2) (H1.out.1.row H1.out.2 d2 (Nat.le_refl _)))
    clear s2 d2 H1
    go_wp2
    go_loopw [22] (fun i wr => ∃ (k : Nat) (ys : List Int), k ≤ 512 ∧ i = .int .i64 k ∧ ys.length = 512 ∧ Byt ys ∧ Dn w0 W wr b cv cs ∧ wr.ownsRow W.heap.size 5 1 (.slice (some ⟨W.heap.size, 0, none⟩) 512 512) 512 (ys.map (Value.int .u8))) (fun i _ => 512 - (intOf i).toNat)
    case atStart => exact ⟨0, zs, by omega, rfl, HZ.out.1, HZ.out.2, H2.out.1, H2.out.2⟩
    case round =>
      clear H2 HZ
      obtain ⟨k, ys, hk, rfl, hl, hB, hd, ho⟩ := hrel
      have HK := hide (And.intro hd ho)
      have HB := hide (And.intro hl hB)
      clear hd ho hl hB
      by_cases hkn : k < 512
      · obtain ⟨⟨y, cy⟩, fy⟩ := own_cellB HK.out.2 hkn
        go_wp2
        go_roundw
        case rel => exact ⟨k + 1, ys.set k (1 + c), by omega, by go_num, by rw [List.length_set]; exact HB.out.1, HB.out.2.put k (by omega) (by omega), HK.out.1.put (Nat.le_refl _) _, own_setB HK.out.2 _⟩
        case measure => simp [intOf]; omega
      · obtain rfl : k = 512 := by omega
        go_wp2_with fail
        refine (HK.out.1.sc.N 512 (by omega) (by omega)).mono ?_
        rintro e w3 ⟨p, rfl, hp0, hp1, s3, d3⟩
        have H3 := hide (And.intro (HK.out.1.draw s3 d3) (HK.out.1.row HK.out.2 d3 (Nat.le_refl _)))
        clear s3 d3 HK
        go_wp2_with fail
        refine (H3.out.1.sc.N 256 (by omega) (by omega)).mono ?_
        rintro e w4 ⟨q, rfl, hq0, hq1, s4, d4⟩
        have H4 := hide (And.intro (H3.out.1.draw s4 d4) (H3.out.1.row H3.out.2 d4 (Nat.le_refl _)))
        clear s4 d4 H3
        obtain ⟨⟨y, cy⟩, fy⟩ := own_cellB H4.out.2 (show p.toNat < 512 by omega)
        go_wp2
        go_ret
        exact ⟨_, ys.set p.toNat q, rfl, by rw [List.length_set]; exact HB.out.1, HB.out.2.put _ hq0 (by omega), own_setB H4.out.2 _, (H4.out.1.put (Nat.le_refl _) _).sc, (H4.out.1.put (Nat.le_refl _) _).gb⟩
end Go.Proofs.Ythghibopnnjboaa

namespace Go.Proofs.Ythghibopnnjboaa
set_option linter.unusedVariables false
set_option linter.unusedSimpArgs false
open Go.RowKit

/-- A slice of n sectors reads as the bytes zs. -/
def RdK (w : World) (v : Value) (n : Nat) (zs : List Int) : Prop :=
  ∃ (a : Option Addr) (cap : Nat), v = .slice a n cap ∧ zs.length = n * 128 ∧ n ≤ 100000 ∧ (0 < n → ∃ b off, a = some ⟨b, off, none⟩ ∧ b < w.heap.size ∧ ∀ i, i < n * 128 → w.cell? ⟨b, off + i, none⟩ = some (.int .u8 (zs.getD i 0)))
theorem RdK.below {w w' : World} {v : Value} {n : Nat} {zs : List Int} (h : RdK w v n zs) (hb : Below w.heap.size w w') : RdK w' v n zs := by
  obtain ⟨a, cap, h1, h2, h3, h4⟩ := h
  refine ⟨a, cap, h1, h2, h3, fun hn => ?_⟩
  obtain ⟨b, off, e, hl, hc⟩ := h4 hn
  exact ⟨b, off, e, Nat.lt_of_lt_of_le hl hb.size, fun i hi => (hb.cell (p := ⟨b, off + i, none⟩) hl).trans (hc i hi)⟩
theorem RdK.own {w : World} {base : Nat} {v : Value} {n : Nat} {zs : List Int} (h : w.ownsRow base 76 128 v n (zs.map (Value.int .u8))) (hn : n ≤ 100000) : RdK w v n zs := by
  have hl : zs.length = n * 128 := by have := h.1; simpa using this
  rcases h.2 with ⟨rfl, h0⟩ | ⟨g, cap, cur, rfl, hb, hg, h1, h2, h3, h4⟩
  · exact ⟨none, 0, by rw [h0], hl, hn, fun hp => by omega⟩
  · refine ⟨some ⟨g, 0, none⟩, cap, rfl, hl, hn, fun hp => ⟨g, 0, rfl, (h.lt g rfl).2, fun i hi => ?_⟩⟩
    rw [Nat.zero_add, h.cellAt i hi, List.getElem?_map, List.getElem?_eq_getElem (by omega)]
    simp [List.getD, show i < zs.length by omega]
theorem infoSec : (Try.prog.info? 76).map (·.size) = some 128 := by kernel_rfl
def zSec : Array Value := Array.replicate 128 (.int .u8 0)
theorem allocSec (w : World) : (Instr.alloc 76 true (.tuple #[])).run Try.prog w = .ok (.pointer (some ⟨w.heap.size, 0, none⟩)) (w.alloc (.cells zSec 76)) := by kernel_rfl
theorem part_range {w : World} {b off n : Nat} {zs : List Int} (hl : zs.length = n * 128) (hc : ∀ i, i < n * 128 → w.cell? ⟨b, off + i, none⟩ = some (.int .u8 (zs.getD i 0))) (k : Nat) (hk : k < n) : w.rangeAt b (off + k * 128) (((zs.drop (k * 128)).take 128).map (Value.int .u8)) := by
  intro j v hj
  have hkn : (k + 1) * 128 ≤ n * 128 := Nat.mul_le_mul_right _ hk
  rw [Nat.add_mul] at hkn
  have hlen : ((zs.drop (k * 128)).take 128).length = 128 := by rw [List.length_take, List.length_drop]; omega
  have hj2 : j < 128 := by
    rcases Nat.lt_or_ge j 128 with h | h
    · exact h
    · rw [List.getElem?_eq_none (by rw [List.length_map, hlen]; exact h)] at hj; cases hj
  rw [Nat.add_assoc, hc (k * 128 + j) (by omega)]
  rw [List.getElem?_map, List.getElem?_take, if_pos hj2, List.getElem?_drop, List.getElem?_eq_getElem (by omega)] at hj
  simp at hj
  rw [← hj]
  simp [List.getD, show k * 128 + j < zs.length by omega]
theorem part_len {zs : List Int} {n k : Nat} (hl : zs.length = n * 128) (hk : k < n) : ((zs.drop (k * 128)).take 128).length = 128 := by
  have hkn : (k + 1) * 128 ≤ n * 128 := Nat.mul_le_mul_right _ hk
  rw [Nat.add_mul] at hkn
  rw [List.length_take, List.length_drop]
  omega
theorem part_next {zs : List Int} (k : Nat) : zs.take (k * 128) ++ (zs.drop (k * 128)).take 128 = zs.take ((k + 1) * 128) := by
  rw [Nat.add_mul, Nat.one_mul, List.take_add]
end Go.Proofs.Ythghibopnnjboaa

namespace Go.Proofs.Ythghibopnnjboaa
set_option linter.unusedVariables false
set_option linter.unusedSimpArgs false
open Go.RowKit

theorem run_allocSec (ρ : Operand → Value) (o : Oper) (ho : o.op = .alloc 76) (w : World) : (execOp ρ o).run Try.prog w = .ok (.value (.pointer (some ⟨w.heap.size, 0, none⟩))) (w.alloc (.cells zSec 76)) := by
  simp [execOp, ho, allocSec, Result.andThen]
theorem shape_rowK {w : World} {base : Nat} {e : TypeId} {sz : Nat} {v : Value} {n : Nat} {xs : List Value} (h : w.ownsRow base e sz v n xs) : ∃ a cap, v = .slice a n cap := by
  rcases h.2 with ⟨rfl, rfl⟩ | ⟨g, cap, _, rfl, _⟩
  · exact ⟨_, _, rfl⟩
  · exact ⟨_, _, rfl⟩
theorem cells_newK (w : World) (C : Array Value) (t : TypeId) : ∀ j u, C.toList[j]? = some u → (w.alloc (.cells C t)).cell? (Addr.add ⟨w.heap.size, 0, none⟩ j) = some u := by
  intro j u hj
  have h := (Blk.new w C t).cell j
  rw [Addr.add_mid, Nat.zero_add, h]
  simpa using hj
set_option maxRecDepth 100000 in
set_option maxHeartbeats 4000000 in
theorem bytesOf_any (v : Value) (n : Nat) (zs : List Int) (w : World) (h : RdK w v n zs) :
    Calls Try.prog 28 #[v] w fun e w' => ∃ v', e = .returned v' ∧ w'.ownsRow w.heap.size 5 1 v' (n * 128) (zs.map (Value.int .u8)) ∧ Below w.heap.size w w' := by
  obtain ⟨i0, hi, hz0, hz1, hz2⟩ := info_parts infoU8
  obtain ⟨a, cap, rfl, hl, hn, hc⟩ := h
  have HC := hide hc
  have HL := hide hl
  clear hc hl
  obtain ⟨Z, hZ⟩ : ∃ Z : Array Value, Z = zSec := ⟨_, rfl⟩
  have HAl := hide (show ∀ (ρ : Operand → Value) (o : Oper) (w : World), o.op = .alloc 76 → (execOp ρ o).run Try.prog w = .ok (.value (.pointer (some ⟨w.heap.size, 0, none⟩))) (w.alloc (.cells Z 76)) from fun ρ o w ho => by rw [hZ]; exact run_allocSec ρ o ho w)
  have hZs : Z.size = 128 := by rw [hZ]; simp [zSec]
  have HZ := hide hZs
  clear hZ hZs
  obtain ⟨N, hN⟩ : ∃ N : Nat, (n : Int) * 128 = (N : Int) := ⟨n * 128, by omega⟩
  have HN := hide (show N = n * 128 by omega)
  have hN3 : N ≤ 12800000 := by omega
  go_enter Try.func28, Try.ntmps28
  go_wp2_with (first | (refine wpList_make_own _ rfl _ _ 22 rfl w.heap.size 5 i0 (.int .u8 0) 1 Try.underlying22 hi hz0 hz1 .i64 .i64 (N : Int) N rfl rfl rfl (by rw [hz2]; omega) (by unfold maxLen; omega) (Nat.le_refl _) ?_; intro w3 hown3 hgr3) | fail)
  have O3 := hide hown3
  have B3 := hide (show Below w.heap.size w w3 from (Below.refl _ _).grown hgr3 (Nat.le_refl _) (fun k e => by cases e))
  clear hown3 hgr3
  go_wp2
  go_loopw [3, 12] (fun ov iv wx => ∃ (k : Nat) (oa : Option Addr) (oc M : Nat), k ≤ n ∧ M = k * 128 ∧ iv = .int .i64 (k : Int) ∧ ov = .slice oa M oc ∧ wx.ownsRow w.heap.size 5 1 ov (k * 128) ((zs.take (k * 128)).map (Value.int .u8)) ∧ Below w.heap.size w wx) (fun _ iv _ => n - (intOf iv).toNat)
  case atStart => exact ⟨0, _, _, 0, by omega, by omega, rfl, rfl, by simpa using O3.out, B3.out⟩
  case round =>
    clear O3 B3
    obtain ⟨k, oa, oc, M, hk, hM, rfl, rfl, ho, hb⟩ := hrel
    rw [← hM] at ho
    have HM := hide hM
    have hMb : M ≤ 12800000 := by omega
    clear hM
    have HO := hide (And.intro ho hb)
    clear ho hb
    by_cases hkn : k < n
    · obtain ⟨b, off, rfl, hbl, hcell⟩ := HC.out (by omega)
      have hkI : (k : Int) < (n : Int) := by omega
      obtain ⟨P, hP⟩ : ∃ P : List Int, P = (zs.drop (k * 128)).take 128 := ⟨_, rfl⟩
      have hPl : P.length = 128 := by rw [hP]; exact part_len HL.out hkn
      have HR := hide (show wr.rangeAt b (off + k * 128) (P.map (Value.int .u8)) by rw [hP]; exact part_range HL.out (fun i hi => (HO.out.2.cell (p := ⟨b, off + i, none⟩) hbl).trans (hcell i hi)) k hkn)
      have BA := hide (show Below wr.heap.size wr (wr.alloc (.cells (P.map (Value.int .u8)).toArray 76)) from (Below.refl _ _).alloc (Nat.le_refl _) _)
      obtain ⟨W3, hW3⟩ : ∃ W3, W3 = (wr.alloc (.cells Z 76)).setRow wr.heap.size (P.map (Value.int .u8)).toArray := ⟨_, rfl⟩
      have B3 := hide (show Below wr.heap.size wr W3 from by rw [hW3]; exact below_setRow ((Below.refl _ _).alloc (Nat.le_refl _) _) (Nat.le_refl _) _)
      have K3 := hide (show Blk W3 wr.heap.size (P.map (Value.int .u8)).toArray 76 from by rw [hW3]; exact (Blk.new wr Z 76).row _)
      have KN := hide (Blk.new wr Z 76)
      have HW3 := hide hW3
      have H1 := hide (show (P.map (Value.int .u8)).toArray.all (·.oneCell') = true by simp [Value.oneCell'])
      have HPl := hide hPl
      have HP := hide hP
      have HSZ := hide (show Z.size = (P.map (Value.int .u8)).toArray.size by rw [HZ.out]; simp [hPl])
      have HIN := hide (show (Try.prog.info? 76).map (·.size) = some (P.map (Value.int .u8)).toArray.size by rw [infoSec]; simp [hPl])
      clear hP hPl
      clear hW3 hcell BA
      go_upto_region 5 with (first
        | (refine wpList_load_mid rfl 76 _ rfl b (off + k * 128) rfl (P.map (Value.int .u8)) _ HR.out Try.underlying76 rfl (by rw [List.length_map, HPl.out]; exact infoSec) ?_)
        | (refine Great.wpList_allocTo rfl (some 5) rfl (.pointer (some ⟨wr.heap.size, 0, none⟩)) (.cells Z 76) (HAl.out _ _ _ rfl) ?_)
        | (refine wpList_store_row rfl 76 _ _ rfl wr.heap.size (P.map (Value.int .u8)).toArray rfl rfl 76 Z KN.out HIN.out HSZ.out H1.out ?_)
        | fail)
      rw [← HW3.out]
      have O3 := hide (own_below HO.out.1 B3.out)
      have hs3 := B3.out.size
      have hsw := HO.out.2.size
      go_wp2_with (first
        | (at_builtin; refine wpList_append_own_at _ rfl (.tmp 16) (.tmp 17) 22 rfl w.heap.size 5 i0 (.int .u8 0) 1 1 Try.underlying22 hi hz0 hz1 hz2 rfl (by decide) (.slice oa M oc) M _ rfl O3.out ⟨wr.heap.size, 0, none⟩ 128 128 (P.map (Value.int .u8)) rfl (by rw [List.length_map, HPl.out]) (fun j u hj => by rw [Addr.add_mid, Nat.zero_add, K3.out.cell j]; simpa using hj) (ints_oneCell _ _) (by unfold maxLen; omega) (by omega) (by omega) ?_; intro v4 w4 o4 g4 _ _; obtain ⟨oa4, oc4, rfl⟩ := shape_rowK o4; have O4 := hide (And.intro o4 g4); clear o4 g4)
        | fail)
      have B4 := hide (show Below w.heap.size w w4 from (HO.out.2.trans (B3.out.mono hsw)).grown O4.out.2 (by omega) (fun r e => (O3.out.lt r e).1))
      have HN4 := hide (show (zs.take M).map (Value.int .u8) ++ P.map (Value.int .u8) = (zs.take ((k + 1) * 128)).map (Value.int .u8) by rw [← List.map_append, HP.out, HM.out, part_next])
      go_roundw
      case rel => exact ⟨k + 1, oa4, oc4, M + 128, by omega, by have := HM.out; omega, by go_num, rfl, by rw [← HN4.out, show (k + 1) * 128 = M + 128 by have := HM.out; omega]; exact O4.out.1, B4.out⟩
      case measure => simp [intOf]; omega
    · have hkn2 : k = n := by omega
      subst hkn2
      have q1 : ¬ ((k : Int) < (k : Int)) := by omega
      go_wp2
      go_ret
      refine ⟨_, rfl, ?_, HO.out.2⟩
      have h1 := HO.out.1
      rw [List.take_of_length_le (by rw [HL.out, HM.out]; omega)] at h1
      rw [← HM.out]
      exact h1
end Go.Proofs.Ythghibopnnjboaa
