/- The program's EncodeTable, whole. The program's DecodeTable, whole. -/
import Derived.Test.YtlgafpjmifacmaaDoorZt34
import Derived.Test.YtlgafpjmifacmaaDoorZt35
namespace Go.Proofs.YtlgafpjmifacmaaDoor
set_option linter.unusedVariables false
set_option linter.unusedSimpArgs false
open Go.RowKit

theorem okTo_full (zs : List Int) (n : Nat) (hz : zs.length = n * 24) : okTo (tabZ zs n) (tabN zs n) (tabN zs n) = okTab zs n := by
  rw [← ok_same zs n hz]
  have h2 : decide (tabN zs n = 0) = false := by
    have : 2 ≤ tabN zs n := by unfold tabN; omega
    simp; omega
  unfold okTo okPro
  rw [h2, Bool.false_or]
theorem flatT_len (Z : List Int) (T : Nat) (hZ : Z.length = T * 24) : ∀ m, m ≤ T → ((List.range m).map fun k => bytesL (rowT Z k)).flatten.length = m * 128 := by
  intro m
  induction m with
  | zero => intro _; rfl
  | succ m ih =>
    intro h
    rw [List.range_succ, List.map_append, List.flatten_append, List.length_append, ih (by omega)]
    simp [bytesL_len _ (rowT_len Z m T hZ (by omega))]
    omega
set_option maxRecDepth 100000 in
set_option maxHeartbeats 1000000 in
theorem layTable_any (v : Value) (T : Nat) (Z : List Int) (w2 : World) (h : RdT w2 v T Z) (h2 : 2 ≤ T) (hbd : T ≤ 1001) (hal : allRows Z T = true) :
    Calls Tryd.prog 30 #[v] w2 fun e w' => ∃ v', e = .returned v' ∧ w'.ownsRow w2.heap.size 5 1 v' (((List.range T).map fun k => bytesL (rowT Z k)).flatten).length ((((List.range T).map fun k => bytesL (rowT Z k)).flatten).map (Value.int .u8)) ∧ Below w2.heap.size w2 w' := by
  obtain ⟨i0, hi, hz0, hz1', hz2⟩ := info_parts infoU8
  have R2 := hide h
  have HAl := hide hal
  clear h hal
  obtain ⟨b, off, cap, rfl, hbw, hcell⟩ := (R2.out.parts).resolve_left (by rintro ⟨a, c, _, h⟩; omega)
  have hZ := R2.out.1
  clear R2
  go_enter Tryd.func30, Tryd.ntmps30
  go_wp2_with (first | (refine wpList_make_own _ rfl _ _ 24 rfl w2.heap.size 5 i0 (.int .u8 0) 1 Tryd.underlying24 hi hz0 hz1' .i64 .i64 _ (T * 128) rfl rfl (by go_num) (by rw [hz2]; omega) (by unfold maxLen; omega) (Nat.le_refl _) ?_; intro w3 o3 g3; have O3 := hide o3; have G3 := hide (show Below w2.heap.size w2 w3 from (Below.refl _ _).grown g3 (Nat.le_refl _) (fun k h => by cases h)); clear o3 g3))
  go_loopw [3, 12] (fun o i wr => ∃ k : Nat, k ≤ T ∧ i = .int .i64 k ∧ wr.ownsRow w2.heap.size 5 1 o (((List.range k).map fun k => bytesL (rowT Z k)).flatten).length ((((List.range k).map fun k => bytesL (rowT Z k)).flatten).map (Value.int .u8)) ∧ Below w2.heap.size w2 wr) (fun _ i _ => T - (intOf i).toNat)
  case atStart => exact ⟨0, by omega, rfl, by simpa using O3.out, G3.out⟩
  case round =>
    clear O3 G3
    obtain ⟨k, hk, rfl, hown, hb1⟩ := hrel
    have HOw := hide hown
    have HBw := hide hb1
    clear hown
    by_cases hlt : k < T
    · have HT := hide (show ((List.range (k + 1)).map fun k => bytesL (rowT Z k)).flatten = ((List.range k).map fun k => bytesL (rowT Z k)).flatten ++ bytesL (rowT Z k) from by
        rw [List.range_succ, List.map_append, List.flatten_append]; simp)
      have HLn := hide (flatT_len Z T hZ k hk)
      have HRt := hide (allRows_at HAl.out hlt)
      have hr := range_row (w := wr) (b := b) (off := off) hZ hlt (fun i hi => (hb1.cell (p := ⟨b, off + i, none⟩) hbw).trans (hcell i hi))
      have hlen := rowT_len Z k T hZ hlt
      generalize rowT Z k = r at hr hlen HT HRt
      have HR := hide hr
      have HN := hide hlen
      have HZ := hide (show (cellsI r).size = 24 from by rw [cellsI_size]; exact HN.out)
      have HK := hide (show Blk (wr.alloc (.cells (cellsI (List.replicate 24 0)) 44)) wr.heap.size (cellsI (List.replicate 24 0)) 44 ∧ Below wr.heap.size wr (wr.alloc (.cells (cellsI (List.replicate 24 0)) 44)) from ⟨Blk.new _ _ _, (Below.refl _ _).alloc (Nat.le_refl _) _⟩)
      have hcap6 : (((List.range k).map fun k => bytesL (rowT Z k)).flatten).length ≤ 128128 := by rw [HLn.out]; omega
      clear hr hlen hb1 hcell
      go_wp2_with (first | (refine wpList_load_mid rfl 44 _ rfl b (off + k * 24) rfl (r.map (Value.int .i64)) _ HR.out Tryd.underlying44 rfl (by rw [List.length_map, HN.out]; exact info24) ?_) | (refine wpList_store_new wr.heap.size wr rfl 44 _ _ rfl wr.heap.size (cellsI r) rfl rfl 44 (cellsI (List.replicate 24 0)) HK.out.1 (by rw [HZ.out]; exact info24) (by rw [HZ.out]; rfl) (cellsI_one _) HK.out.2 (Nat.le_refl _) ?_; intro w5 k5 b5; have K5 := hide k5; have O5 := hide (own_below HOw.out b5); have B5 := hide (HBw.out.trans (b5.mono HBw.out.size)); clear k5 b5) | (refine wpList_load_row rfl 44 _ rfl wr.heap.size rfl 44 (cellsI r) (0, 0) _ K5.out Tryd.underlying44 rfl (by rw [HZ.out]; exact info24) ?_) | (go_at_call 52; fail))
      refine (layInodeL r _ HN.out HRt.out).mono ?_
      rintro e w6 ⟨v6, rfl, o6, b6⟩
      have hs6 := b6.size
      have O6 := hide (own_below O5.out b6)
      have B6 := hide (B5.out.trans (b6.mono B5.out.size))
      obtain ⟨bd, off6, cp, rfl, hbw6, _, _, hcell6⟩ := (Rd.own (zs := bytesL r) o6).partsC (by rw [bytesL_len r HN.out]; omega)
      have hl6 := bytesL_len r HN.out
      have HX6 := hide (show ∀ (j : Nat) (u : Value), ((bytesL r).map (Value.int .u8))[j]? = some u → w6.cell? ((⟨bd, off6, none⟩ : Addr).add j) = some u from fun j u hj => by
        have hjl : j < (bytesL r).length := by
          rcases Nat.lt_or_ge j (bytesL r).length with h | h
          · exact h
          · rw [List.getElem?_eq_none (by simpa using h)] at hj; cases hj
        rw [Addr.add_mid, hcell6 j hjl]
        rw [List.getElem?_map, List.getElem?_eq_getElem hjl] at hj
        simp at hj
        rw [← hj]
        simp [List.getD, hjl])
      have HL6 := hide hl6
      rw [hl6]
      clear hcell6 o6 b6 O5 B5 K5 hl6
      go_wp2_with (at_builtin; refine append_fresh _ rfl (.tmp 16) (.tmp 18) 24 rfl w2.heap.size 5 i0 (.int .u8 0) 1 1 Tryd.underlying24 hi hz0 hz1' hz2 rfl (by decide) _ _ _ rfl O6.out ⟨bd, off6, none⟩ 128 cp ((bytesL r).map (Value.int .u8)) rfl (by rw [List.length_map, HL6.out]) HX6.out (ints_oneCell _ _) (by omega) (by unfold maxLen; omega) (by omega) (B6.out.size) ?_; intro v7 w7 o7 g7 f7)
      have HW := hide (show w7.ownsRow w2.heap.size 5 1 v7 (((List.range (k + 1)).map fun k => bytesL (rowT Z k)).flatten).length ((((List.range (k + 1)).map fun k => bytesL (rowT Z k)).flatten).map (Value.int .u8)) ∧ Below w2.heap.size w2 w7 from by
        refine ⟨?_, B6.out.grown g7 B6.out.size (fun r h => (O6.out.lt r h).1)⟩
        rw [HT.out, List.map_append, List.length_append, HL6.out]
        exact o7)
      clear o7 g7 f7
      go_roundw
      case rel => exact ⟨k + 1, by omega, by go_num, HW.out.1, HW.out.2⟩
      case measure => simp [intOf]; omega
    · have hkn : k = T := by omega
      subst hkn
      clear hb1
      go_wp2
      go_ret
      exact ⟨_, rfl, HOw.out, HBw.out⟩

set_option maxRecDepth 100000 in
set_option maxHeartbeats 1000000 in
theorem implTab_any (v : Value) (n : Nat) (zs : List Int) (w : World) (h : RdT w v n zs) (hn : n ≤ 1048576) (hg : ErrT w) :
    Calls Tryd.prog 9 #[v] w fun e w' => ∃ v', e = .returned (.tuple #[v', .int .i64 (codeTab zs n)]) ∧ w'.ownsRow w.heap.size 5 1 v' (encTab zs n).length ((encTab zs n).map (Value.int .u8)) ∧ Below w.heap.size w w' := by
  obtain ⟨i0, hi, hz0, hz1', hz2⟩ := info_parts infoU8
  have HX := hide h
  have hz := h.1
  have HG := hide hg
  have HOk := hide (okTo_full zs n hz)
  clear h hg
  go_enter Tryd.func9, Tryd.ntmps9
  go_wp2_with (go_at_call 27; fail)
  refine (tableOf_any v n zs _ HX.out hn).mono ?_
  rintro e w1 ⟨v1, rfl, o1, b1⟩
  have R1 := hide (RdT.own o1)
  have B1 := hide b1
  clear o1 b1
  go_wp2_with (go_at_call 28; fail)
  refine (tableFault_any v1 (tabN zs n) (tabZ zs n) 7 _ R1.out).mono ?_
  rintro e w2 ⟨ev, rfl, hf, b2⟩
  rw [HOk.out] at hf
  have B2 := hide (B1.out.trans (b2.mono B1.out.size))
  have R2 := hide (R1.out.below b2)
  clear b2 R1 B1
  rcases hf with ⟨hr, rfl⟩ | ⟨hr, m, hm⟩
  · have HE := hide (enc_same zs n hz hr)
    have HO := hide hr
    have hbd : tabN zs n ≤ 1001 := by
      have h1 := ok_same zs n hz
      rw [hr] at h1
      unfold okPro at h1
      simp only [Bool.and_eq_true, decide_eq_true_eq] at h1
      omega
    have HAl := hide (show allRows (tabZ zs n) (tabN zs n) = true from by
      have h1 := ok_same zs n hz
      rw [hr] at h1
      unfold okPro at h1
      simp only [Bool.and_eq_true, decide_eq_true_eq] at h1
      exact h1.2.1)
    have h2 : 2 ≤ tabN zs n := by unfold tabN; omega
    generalize tabN zs n = T at hbd HAl h2 R2 HE
    generalize tabZ zs n = Z at HAl R2 HE
    clear hr
    go_wp2_with (go_at_call 30; fail)
    refine (layTable_any v1 T Z _ R2.out h2 hbd HAl.out).mono ?_
    rintro e w3 ⟨v3, rfl, o3, b3⟩
    have h1 := o3
    rw [HE.out] at h1
    have O3 := hide (own_mono h1 B2.out.size)
    have B3 := hide (B2.out.trans (b3.mono B2.out.size))
    clear o3 b3 h1
    go_wp2
    go_ret2
    rw [show codeTab zs n = 0 from by unfold codeTab; rw [if_pos HO.out]]
    exact ⟨_, rfl, O3.out, B3.out⟩
  · obtain ⟨t', x', rfl⟩ := hm.iface
    have H4 := hide hm
    have HO := hide hr
    clear hr hm
    go_wp2_with (go_at_call 29; refine (codeOf_any m _ 7 _ _ H4.out (HG.out.below B2.out)).mono ?_; rintro e w3 ⟨rfl, hb3⟩)
    go_ret2
    rw [(codeTab_not HO.out).1]
    exact ⟨_, rfl, own_none HO.out, B2.out.trans (hb3.mono B2.out.size)⟩
end Go.Proofs.YtlgafpjmifacmaaDoor

namespace Go.Proofs.YtlgafpjmifacmaaDoor
set_option linter.unusedVariables false
set_option linter.unusedSimpArgs false
open Go.RowKit

/-- How many inodes the bytes tell, their integers, and whether they are a table. -/
def numDT (zs : List Int) : Nat := pcs zs.length 128
def rowsDT (zs : List Int) : List Int := readZ zs (List.range (numDT zs))
def okDT (zs : List Int) : Bool := decide (zs.length ≤ 128128) && readOk zs (List.range (numDT zs)) && (okTo (rowsDT zs) (numDT zs) (numDT zs) && decide (numDT zs = tabN (rowsDT zs) (numDT zs)))
def codeDT (zs : List Int) : Int := if okDT zs = true then 0 else 21
def cntDT (zs : List Int) : Nat := if okDT zs = true then numDT zs else 0
def decDT (zs : List Int) : List Int := if okDT zs = true then rowsDT zs else []
theorem rowsDT_len (zs : List Int) : (rowsDT zs).length = numDT zs * 24 := by unfold rowsDT; rw [readZ_len, List.length_range]
theorem numDT_le {zs : List Int} (h : zs.length ≤ 128128) : numDT zs ≤ 1001 := by unfold numDT pcs; omega

theorem toldT_nil (v : Value) (w : World) (a : Option Addr) (len cap : Nat) (hv : v = .slice a len cap) :
    Calls Tryd.prog 37 #[v, .nilIface] w fun e w' => e = .returned (.tuple #[v, .int .i64 0]) ∧ w' = w := by
  subst hv
  go_enter Tryd.func37, Tryd.ntmps37
  go_wp2
  go_ret2
  exact ⟨rfl, rfl⟩
theorem toldT_bad (v : Value) (w : World) (a : Option Addr) (len cap m : Nat) (ev : Value) (code : Int) (hv : v = .slice a len cap) (hf : Flt w w.heap.size m ev code ∨ ∃ lo, Flt w lo m ev code) (hg : ErrT w) :
    Calls Tryd.prog 37 #[v, ev] w fun e w' => e = .returned (.tuple #[.slice none 0 0, .int .i64 code]) ∧ Below w.heap.size w w' := by
  subst hv
  obtain ⟨lo, hf⟩ : ∃ lo, Flt w lo m ev code := by rcases hf with h | h; exact ⟨_, h⟩; exact h
  obtain ⟨t', x', rfl⟩ := hf.iface
  have H4 := hide hf
  have HG := hide hg
  clear hf hg
  go_enter Tryd.func37, Tryd.ntmps37
  go_wp2_with (go_at_call 29; refine (codeOf_any m _ code _ _ H4.out HG.out).mono ?_; rintro e w3 ⟨rfl, hb3⟩)
  go_ret2
  exact ⟨rfl, hb3⟩

theorem inside_set (b : Nat) (place : ByteArray) (t : TypeId) (x : Addr) (w : World) (c1 : w.cell? ⟨b, 1, none⟩ = some .nilIface) (f1 : w.frozen? ⟨b, 1, none⟩ = false) :
    Calls Tryd.prog 35 #[.pointer (some ⟨b, 0, none⟩), .string place, .iface t (.pointer (some x))] w fun e w' => e = .returned (.tuple #[]) ∧ w' = (w.setCell ⟨b, 1, none⟩ (.iface 92 (.pointer (some ⟨w.heap.size, 0, none⟩)))).alloc (.cells #[.string place, .iface t (.pointer (some x))] 94) := by
  have hlt : b < w.heap.size := cell_lt c1
  go_enter Tryd.func35, Tryd.ntmps35
  go_wp2
  go_end0
  exact ⟨rfl, rfl⟩
theorem inside_keep (b : Nat) (place : ByteArray) (t : TypeId) (x : Value) (v : Value) (w : World) (c1 : w.cell? ⟨b, 1, none⟩ = some (.iface t x)) (hv : v = .nilIface ∨ ∃ t' x', v = .iface t' x') :
    Calls Tryd.prog 35 #[.pointer (some ⟨b, 0, none⟩), .string place, v] w fun e w' => e = .returned (.tuple #[]) ∧ w' = w := by
  rcases hv with rfl | ⟨t', x', rfl⟩
  · go_enter Tryd.func35, Tryd.ntmps35
    go_wp2
    go_end0
    exact ⟨rfl, rfl⟩
  · go_enter Tryd.func35, Tryd.ntmps35
    go_wp2
    go_end0
    exact ⟨rfl, rfl⟩
theorem need_keep (b : Nat) (place : ByteArray) (t : TypeId) (x : Value) (code : Int) (hd : Bool) (w : World) (c0 : w.cell? ⟨b, 0, none⟩ = some (.int .i64 code)) (c1 : w.cell? ⟨b, 1, none⟩ = some (.iface t x)) :
    Calls Tryd.prog 36 #[.pointer (some ⟨b, 0, none⟩), .string place, .bool hd] w fun e w' => e = .returned (.tuple #[]) ∧ Below w.heap.size w w' := by
  cases hd with
  | true =>
    go_enter Tryd.func36, Tryd.ntmps36
    go_wp2
    go_end0
    exact ⟨rfl, Below.refl _ _⟩
  | false =>
    have hb0 : Below w.heap.size w (w.alloc (.cells #[.int .i64 code] 83)) := (Below.refl _ _).alloc (Nat.le_refl _) _
    have HC := hide (show (w.alloc (.cells #[.int .i64 code] 83)).cell? ⟨b, 1, none⟩ = some (.iface t x) from (hb0.cell (p := ⟨b, 1, none⟩) (cell_lt c1)).trans c1)
    have HB := hide hb0
    clear hb0
    go_enter Tryd.func36, Tryd.ntmps36
    go_wp2_with (go_at_call 35; refine (inside_keep b place t x _ _ HC.out (.inr ⟨_, _, rfl⟩)).mono ?_; rintro e w' ⟨rfl, hw⟩; rw [hw]; clear hw)
    go_end0
    exact ⟨rfl, HB.out⟩
theorem okDT_not {zs : List Int} (h : okDT zs = false) : codeDT zs = 21 ∧ cntDT zs = 0 ∧ decDT zs = [] := by
  unfold codeDT cntDT decDT; rw [h]; exact ⟨rfl, rfl, rfl⟩
theorem okDT_yes {zs : List Int} (h : okDT zs = true) : codeDT zs = 0 ∧ cntDT zs = numDT zs ∧ decDT zs = rowsDT zs := by
  unfold codeDT cntDT decDT; rw [h]; exact ⟨rfl, rfl, rfl⟩

set_option maxRecDepth 100000 in
set_option maxHeartbeats 1000000 in
/-- Behind a fault in the bytes: nothing more is set, the fault is told. -/
theorem implDT_bad (v : Value) (zs : List Int) (w : World) (h : Rd .u8 w v zs) (hg : ErrT w)
    (hR : Calls Tryd.prog 34 #[v] w fun e w' => ∃ v' ev n, ∃ Z : List Int, e = .returned (.tuple #[v', ev]) ∧ (∃ m, Flt w' w.heap.size m ev 21) ∧ w'.ownsRow w.heap.size 44 24 v' n (Z.map (Value.int .i64)) ∧ n ≤ 1001 ∧ Below w.heap.size w w') :
    Calls Tryd.prog 17 #[v] w fun e w' => e = .returned (.tuple #[.slice none 0 0, .int .i64 21]) ∧ Below w.heap.size w w' := by
  obtain ⟨a, cap, rfl, _⟩ := h
  have HG := hide hg
  have HR := hide hR
  clear hg hR
  go_enter Tryd.func17, Tryd.ntmps17
  go_wp2_with (go_at_call 34; fail)
  refine HR.out.mono ?_
  rintro e w1 ⟨v1, ev1, n, Z, rfl, ⟨m, hf1⟩, o1, hn, b1⟩
  obtain ⟨a1, cap1, rfl⟩ := ownT_shape o1
  obtain ⟨t', x', rfl⟩ := hf1.iface
  have O1 := hide o1
  have F1 := hide hf1
  have B1 := hide b1
  have hZ1 : Z.length = n * 24 := by have := o1.1; simpa using this
  clear o1 hf1 b1 HR
  have c1 : (w1.alloc (.cells #[.int .i64 21, .nilIface] 63)).cell? ⟨w1.heap.size, 1, none⟩ = some .nilIface := by simp
  have f1 : (w1.alloc (.cells #[.int .i64 21, .nilIface] 63)).frozen? ⟨w1.heap.size, 1, none⟩ = false := by simp
  have C1 := hide (And.intro c1 f1)
  clear c1 f1
  go_wp2_with (go_at_call 35; fail)
  refine (inside_set w1.heap.size _ t' _ _ C1.out.1 C1.out.2).mono ?_
  rintro e w2 ⟨rfl, hw2⟩
  have hs2 : w2.heap.size = w1.heap.size + 2 := by rw [hw2]; simp
  have hk2 : ∀ k, k < w1.heap.size → w2.heap[k]? = w1.heap[k]? := fun k hk => by
    rw [hw2, Below.heap_alloc _ _ k (by simp; omega), Below.heap_setCell _ _ _ k (by show k ≠ w1.heap.size; omega), Below.heap_alloc _ _ k hk]
  have hB12 : Below w1.heap.size w1 w2 := by
    rw [hw2]
    exact (((Below.refl _ _).alloc (Nat.le_refl _) _).setCell (p := ⟨w1.heap.size, 1, none⟩) (Nat.le_refl _) _).alloc (by simp) _
  have hc20 : w2.cell? ⟨w1.heap.size, 0, none⟩ = some (.int .i64 21) := by
    rw [hw2, World.cell?_alloc_lt _ _ ⟨w1.heap.size, 0, none⟩ (by simp), World.cell?_setCell_other _ _ _ _ (by intro q; injection q with q1 q2; cases q2)]
    simp
  have hc21 : w2.cell? ⟨w1.heap.size, 1, none⟩ = some (.iface 92 (.pointer (some ⟨w1.heap.size + 1, 0, none⟩))) := by
    rw [hw2, World.cell?_alloc_lt _ _ ⟨w1.heap.size, 1, none⟩ (by simp), World.cell?_setCell_same _ _ _ (by simp : _ = some .nilIface)]
    simp
  have hfl : Flt w2 w.heap.size (m + 1) (.iface 92 (.pointer (some ⟨w1.heap.size + 1, 0, none⟩))) 21 := by
    refine ⟨w1.heap.size + 1, _, rfl, by have := B1.out.size; omega, ?_, F1.out.below hB12⟩
    rw [hw2, World.cell?_alloc_at _ _ _ _ (by simp)]; rfl
  have K2 := hide (And.intro hc20 (And.intro hc21 (And.intro hfl hB12)))
  have R2 := hide ((RdT.own O1.out).below hB12)
  clear hw2 hk2 hc20 hfl hB12
  have c20 := K2.out.1
  go_wp2_with (go_at_call 28; fail)
  refine (tableFault_any _ n Z 21 _ R2.out).mono ?_
  rintro e w3 ⟨ev3, rfl, hf3, b3⟩
  have hv3 : ev3 = .nilIface ∨ ∃ t' x', ev3 = .iface t' x' := by
    rcases hf3 with ⟨_, rfl⟩ | ⟨_, m3, h3⟩
    · exact .inl rfl
    · obtain ⟨t3, x3, rfl⟩ := h3.iface; exact .inr ⟨_, _, rfl⟩
  have HV3 := hide hv3
  have hs1 := B1.out.size
  have K3 := hide (show w3.cell? ⟨w1.heap.size, 0, none⟩ = some (.int .i64 21) ∧ w3.cell? ⟨w1.heap.size, 1, none⟩ = some (.iface 92 (.pointer (some ⟨w1.heap.size + 1, 0, none⟩))) ∧ Flt w3 w.heap.size (m + 1) (.iface 92 (.pointer (some ⟨w1.heap.size + 1, 0, none⟩))) 21 ∧ Below w.heap.size w w3 from
    ⟨(b3.cell (p := ⟨w1.heap.size, 0, none⟩) (by show w1.heap.size < w2.heap.size; omega)).trans K2.out.1, (b3.cell (p := ⟨w1.heap.size, 1, none⟩) (by show w1.heap.size < w2.heap.size; omega)).trans K2.out.2.1, K2.out.2.2.1.below b3, (B1.out.trans (K2.out.2.2.2.mono hs1)).trans (b3.mono (by omega))⟩)
  have R3 := hide (R2.out.below b3)
  have hs3 := b3.size
  clear hf3 hv3 b3 c20 hc21 K2 R2
  go_wp2_with fail
  refine (inside_keep w1.heap.size _ _ _ ev3 _ K3.out.2.1 HV3.out).mono ?_
  rintro e w' ⟨rfl, hw'⟩
  rw [hw']
  clear hw' w'
  go_wp2_with (go_at_call 27; fail)
  refine (tableOf_any _ n Z _ R3.out (by omega)).mono ?_
  rintro e w4 ⟨v4, rfl, o4, b4⟩
  obtain ⟨a4, cap4, rfl⟩ := ownT_shape o4
  have K4 := hide (show w4.cell? ⟨w1.heap.size, 0, none⟩ = some (.int .i64 21) ∧ w4.cell? ⟨w1.heap.size, 1, none⟩ = some (.iface 92 (.pointer (some ⟨w1.heap.size + 1, 0, none⟩))) ∧ Flt w4 w.heap.size (m + 1) (.iface 92 (.pointer (some ⟨w1.heap.size + 1, 0, none⟩))) 21 ∧ Below w.heap.size w w4 from
    ⟨(b4.cell (p := ⟨w1.heap.size, 0, none⟩) (by show w1.heap.size < w3.heap.size; omega)).trans K3.out.1, (b4.cell (p := ⟨w1.heap.size, 1, none⟩) (by show w1.heap.size < w3.heap.size; omega)).trans K3.out.2.1, K3.out.2.2.1.below b4, K3.out.2.2.2.trans (b4.mono K3.out.2.2.2.size)⟩)
  have hs4 := b4.size
  clear o4 b4 K3 R3
  go_wp2_with fail
  refine (need_keep w1.heap.size _ _ _ 21 _ _ K4.out.1 K4.out.2.1).mono ?_
  rintro e w5 ⟨rfl, b5⟩
  have hc51 := (b5.cell (p := ⟨w1.heap.size, 1, none⟩) (by show w1.heap.size < w4.heap.size; omega)).trans K4.out.2.1
  have K5 := hide (show Flt w5 w.heap.size (m + 1) (.iface 92 (.pointer (some ⟨w1.heap.size + 1, 0, none⟩))) 21 ∧ Below w.heap.size w w5 from ⟨K4.out.2.2.1.below b5, K4.out.2.2.2.trans (b5.mono K4.out.2.2.2.size)⟩)
  clear b5 K4
  go_wp2_with (go_at_call 37; fail)
  refine (toldT_bad _ _ a1 n cap1 (m + 1) _ 21 rfl (.inr ⟨_, K5.out.1⟩) (HG.out.below K5.out.2)).mono ?_
  rintro e w6 ⟨rfl, b6⟩
  have B6 := hide (K5.out.2.trans (b6.mono K5.out.2.size))
  clear b6 hc51
  go_wp2
  go_ret2
  exact ⟨rfl, B6.out⟩
end Go.Proofs.YtlgafpjmifacmaaDoor
