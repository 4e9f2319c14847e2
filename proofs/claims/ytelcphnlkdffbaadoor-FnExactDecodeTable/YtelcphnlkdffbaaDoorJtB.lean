/- Inodes as lists of twenty-four integers: what is right, what is laid down; the trimmed table and the table that the model tells are one. The model's EncodeTable. The model's EncodeTable, whole. The program's table, trimmed: tableOf. copy of elements of many cells. The program's look at a table, and its EncodeTable. The program's EncodeTable, whole. -/
import Derived.Test.YtelcphnlkdffbaaDoorJtA
import Derived.Test.YtelcphnlkdffbaaDoorInoH
import Derived.Test.YtelcphnlkdffbaaDoorInv
import Derived.Laws.CopyOwn
namespace Go.Proofs.YtelcphnlkdffbaaDoor
set_option linter.unusedVariables false
set_option linter.unusedSimpArgs false
open Go.RowKit

theorem RdT.get {w : World} {a : Option Addr} {cap n : Nat} {zs : List Int} (h : RdT w (.slice a n cap) n zs) (hn : 0 < n) : ∃ b off, a = some ⟨b, off, none⟩ ∧ b < w.heap.size ∧ ∀ i, i < n * 24 → w.cell? ⟨b, off + i, none⟩ = some (.int .i64 (zs.getD i 0)) := by
  obtain ⟨_, a', c', e, h2, _⟩ := h
  injection e with e1 e2 e3
  subst e1
  exact h2 hn
def rightL (r : List Int) : Bool := rightIno (r.getD 0 0) (r.getD 1 0) (r.getD 2 0) (r.getD 3 0) (r.getD 4 0) (r.getD 5 0) (r.getD 6 0) (r.getD 7 0) (r.getD 8 0) (r.getD 9 0) ((r.drop 10).take 12) (r.getD 22 0) (r.getD 23 0)
def bytesL (r : List Int) : List Int := bytesIno (r.getD 0 0).toNat (r.getD 1 0).toNat (r.getD 2 0).toNat (r.getD 3 0).toNat (r.getD 4 0).toNat (r.getD 5 0).toNat (r.getD 6 0).toNat (r.getD 7 0).toNat (r.getD 8 0).toNat (r.getD 9 0) ((r.drop 10).take 12) (r.getD 22 0) (r.getD 23 0)
theorem parts_row (r : List Int) (h : r.length = 24) : r = inoI [r.getD 0 0, r.getD 1 0, r.getD 2 0, r.getD 3 0, r.getD 4 0, r.getD 5 0, r.getD 6 0, r.getD 7 0, r.getD 8 0] (r.getD 9 0) ((r.drop 10).take 12) (r.getD 22 0) (r.getD 23 0) ∧ ((r.drop 10).take 12).length = 12 := by
  match r, h with
  | [_, _, _, _, _, _, _, _, _, _, _, _, _, _, _, _, _, _, _, _, _, _, _, _], _ => exact ⟨rfl, rfl⟩
theorem bytesL_len (r : List Int) (h : r.length = 24) : (bytesL r).length = 128 := bytesIno_len _ _ _ _ _ _ _ _ _ _ _ _ _ (parts_row r h).2
theorem l02InodeL (r : List Int) (w : World) (h : r.length = 24) : Calls Tryd.prog 23 #[.agg (cellsI r)] w fun e w' => e = .returned (.bool (rightL r)) ∧ Below w.heap.size w w' := by
  have := l02Inode_any (r.getD 0 0) (r.getD 1 0) (r.getD 2 0) (r.getD 3 0) (r.getD 4 0) (r.getD 5 0) (r.getD 6 0) (r.getD 7 0) (r.getD 8 0) (r.getD 9 0) ((r.drop 10).take 12) (r.getD 22 0) (r.getD 23 0) w (parts_row r h).2
  rw [← (parts_row r h).1] at this
  exact this
theorem inodeFaultL (r : List Int) (code : Int) (w : World) (h : r.length = 24) : Calls Tryd.prog 50 #[.agg (cellsI r), .int .i64 code] w fun e w' => ∃ ev, e = .returned ev ∧ FaultIs w' w.heap.size (rightL r) ev code ∧ Below w.heap.size w w' := by
  have := inodeFault_any (r.getD 0 0) (r.getD 1 0) (r.getD 2 0) (r.getD 3 0) (r.getD 4 0) (r.getD 5 0) (r.getD 6 0) (r.getD 7 0) (r.getD 8 0) (r.getD 9 0) ((r.drop 10).take 12) (r.getD 22 0) (r.getD 23 0) code w (parts_row r h).2
  rw [← (parts_row r h).1] at this
  exact this
theorem eqInoL (w : World) (r : List Int) (h : r.length = 24) : (Op.equalIn 10000 44 (.agg (cellsI r)) (.agg (cellsI (List.replicate 24 0)))).run Tryd.prog w = .ok (zeroB r) w := by
  have := eqIno_zero w 9995 (r.getD 0 0) (r.getD 1 0) (r.getD 2 0) (r.getD 3 0) (r.getD 4 0) (r.getD 5 0) (r.getD 6 0) (r.getD 7 0) (r.getD 8 0) (r.getD 9 0) ((r.drop 10).take 12) (r.getD 22 0) (r.getD 23 0) (parts_row r h).2
  rw [← (parts_row r h).1] at this
  exact this
theorem layInode_r (k0 k1 k2 k3 k4 k5 k6 k7 k8 s : Int) (ds : List Int) (p q : Int) (w : World) (hd : ds.length = 12) (hr : rightIno k0 k1 k2 k3 k4 k5 k6 k7 k8 s ds p q = true) : Calls Tryd.prog 30 #[.agg (cellsI (inoI [k0, k1, k2, k3, k4, k5, k6, k7, k8] s ds p q))] w fun e w' => ∃ v', e = .returned v' ∧ w'.ownsRow w.heap.size 5 1 v' 128 ((bytesIno k0.toNat k1.toNat k2.toNat k3.toNat k4.toNat k5.toNat k6.toNat k7.toNat k8.toNat s ds p q).map (Value.int .u8)) ∧ Below w.heap.size w w' := by
  refine openI hd hr fun a0 a1 a2 a3 a4 a5 a6 a7 a8 d0 d1 d2 d3 d4 d5 d6 d7 d8 d9 d10 d11 hk hds hbd => ?_
  obtain ⟨rfl, rfl, rfl, rfl, rfl, rfl, rfl, rfl, rfl⟩ := hk
  subst hds
  obtain ⟨h0, h1, h2, h3, h4, h5, h6, h7, h8, hs, hp⟩ := hbd
  exact layInode_any a0 a1 a2 a3 a4 a5 a6 a7 a8 s [d0, d1, d2, d3, d4, d5, d6, d7, d8, d9, d10, d11] p q w rfl h0 h1 h2 h3 h4 h5 h6 h7 h8 hs hp
theorem layInodeL (r : List Int) (w : World) (h : r.length = 24) (hr : rightL r = true) : Calls Tryd.prog 30 #[.agg (cellsI r)] w fun e w' => ∃ v', e = .returned v' ∧ w'.ownsRow w.heap.size 5 1 v' 128 ((bytesL r).map (Value.int .u8)) ∧ Below w.heap.size w w' := by
  have := layInode_r (r.getD 0 0) (r.getD 1 0) (r.getD 2 0) (r.getD 3 0) (r.getD 4 0) (r.getD 5 0) (r.getD 6 0) (r.getD 7 0) (r.getD 8 0) (r.getD 9 0) ((r.drop 10).take 12) (r.getD 22 0) (r.getD 23 0) w (parts_row r h).2 hr
  rw [← (parts_row r h).1] at this
  exact this
theorem inodeBytes_r (k0 k1 k2 k3 k4 k5 k6 k7 k8 s : Int) (ds : List Int) (p q : Int) (w : World) (hd : ds.length = 12) (hr : rightIno k0 k1 k2 k3 k4 k5 k6 k7 k8 s ds p q = true) : Calls Tryd.prog 47 #[.agg (cellsI (inoI [k0, k1, k2, k3, k4, k5, k6, k7, k8] s ds p q))] w fun e w' => ∃ v', e = .returned v' ∧ w'.ownsRow w.heap.size 5 1 v' 128 ((bytesIno k0.toNat k1.toNat k2.toNat k3.toNat k4.toNat k5.toNat k6.toNat k7.toNat k8.toNat s ds p q).map (Value.int .u8)) ∧ Below w.heap.size w w' := by
  refine openI hd hr fun a0 a1 a2 a3 a4 a5 a6 a7 a8 d0 d1 d2 d3 d4 d5 d6 d7 d8 d9 d10 d11 hk hds hbd => ?_
  obtain ⟨rfl, rfl, rfl, rfl, rfl, rfl, rfl, rfl, rfl⟩ := hk
  subst hds
  obtain ⟨h0, h1, h2, h3, h4, h5, h6, h7, h8, hs, hp⟩ := hbd
  exact inodeBytes_any a0 a1 a2 a3 a4 a5 a6 a7 a8 s d0 d1 d2 d3 d4 d5 d6 d7 d8 d9 d10 d11 p q w h0 h1 h2 h3 h4 h5 h6 h7 h8 hs hp
theorem inodeBytesL (r : List Int) (w : World) (h : r.length = 24) (hr : rightL r = true) : Calls Tryd.prog 47 #[.agg (cellsI r)] w fun e w' => ∃ v', e = .returned v' ∧ w'.ownsRow w.heap.size 5 1 v' 128 ((bytesL r).map (Value.int .u8)) ∧ Below w.heap.size w w' := by
  have := inodeBytes_r (r.getD 0 0) (r.getD 1 0) (r.getD 2 0) (r.getD 3 0) (r.getD 4 0) (r.getD 5 0) (r.getD 6 0) (r.getD 7 0) (r.getD 8 0) (r.getD 9 0) ((r.drop 10).take 12) (r.getD 22 0) (r.getD 23 0) w (parts_row r h).2 hr
  rw [← (parts_row r h).1] at this
  exact this

theorem right_kind (r : List Int) (h : r.length = 24) (hr : rightL r = true) : zeroB r = (r.getD 0 0 == 0) := by
  have hp := (parts_row r h).1
  cases hz : zeroB r with
  | true =>
    rw [zeroB_iff] at hz
    have : r.getD 0 0 = 0 := hz _ (by simp [List.getD, h])
    rw [this]; rfl
  | false =>
    unfold rightL rightIno at hr
    rw [← hp, hz, Bool.false_or, Bool.and_eq_true] at hr
    have hf := hr.1
    unfold fieldsB at hf
    simp only [Bool.and_eq_true] at hf
    have := wi_true hf.1.1.1.1.1.1.1.1
    have hne : r.getD 0 0 ≠ 0 := by omega
    exact (beq_eq_false_iff_ne.2 hne).symm
theorem zero_right (r : List Int) (h : r.length = 24) (hz : zeroB r = true) : rightL r = true := by
  unfold rightL rightIno
  rw [← (parts_row r h).1, hz, Bool.true_or]
theorem zero_row (r : List Int) (h : r.length = 24) (hz : zeroB r = true) : r = List.replicate 24 0 := by
  rw [zeroB_iff] at hz
  rw [← h]
  exact List.eq_replicate_iff.2 ⟨rfl, hz⟩

/-- The greatest number below m of one that isn't free; 1 if there is none. -/
def lastK (zs : List Int) : Nat → Nat
  | 0 => 1
  | m + 1 => if zs.getD (m * 24) 0 = 0 then lastK zs m else m
def lastT (zs : List Int) (n : Nat) : Nat := max (lastK zs n) 1
/-- How many inodes are left without those at the end that are all zero. -/
def trimK (zs : List Int) : Nat → Nat
  | 0 => 0
  | m + 1 => if zeroB (rowT zs m) = true then trimK zs m else m + 1
def allRows (zs : List Int) (n : Nat) : Bool := (List.range n).all fun k => rightL (rowT zs k)
/-- Inode k of a list that is lacking behind n. -/
def rowO (zs : List Int) (n k : Nat) : List Int := if k < n then rowT zs k else List.replicate 24 0
def okTab (zs : List Int) (n : Nat) : Bool := allRows zs n && (zeroB (rowO zs n 0) && decide (lastT zs n ≤ 1000))
def encTab (zs : List Int) (n : Nat) : List Int := if okTab zs n = true then ((List.range (lastT zs n + 1)).map fun k => bytesL (rowO zs n k)).flatten else []
def codeTab (zs : List Int) (n : Nat) : Int := if okTab zs n = true then 0 else 7
theorem rowO_len (zs : List Int) (n k : Nat) (hz : zs.length = n * 24) : (rowO zs n k).length = 24 := by
  unfold rowO
  split
  · exact rowT_len zs k n hz ‹_›
  · simp
theorem allRows_at {zs : List Int} {n k : Nat} (h : allRows zs n = true) (hk : k < n) : rightL (rowT zs k) = true := by
  unfold allRows at h
  rw [List.all_eq_true] at h
  exact h k (by simpa using hk)
theorem zrep : rightL (List.replicate 24 0) = true := zero_right _ (by simp) ((zeroB_iff _).2 (fun x hx => (List.mem_replicate.1 hx).2))
theorem rowO_right {zs : List Int} {n : Nat} (h : allRows zs n = true) (k : Nat) : rightL (rowO zs n k) = true := by
  unfold rowO
  split
  · exact allRows_at h ‹_›
  · exact zrep
theorem lastK_lt (zs : List Int) : ∀ n, lastK zs n < max n 2
  | 0 => by simp [lastK]
  | m + 1 => by
    have := lastK_lt zs m
    unfold lastK
    split <;> omega
theorem trimK_le (zs : List Int) : ∀ n, trimK zs n ≤ n
  | 0 => Nat.le_refl _
  | m + 1 => by
    have := trimK_le zs m
    unfold trimK
    split <;> omega
theorem trimK_zero (zs : List Int) : ∀ n k, trimK zs n ≤ k → k < n → zeroB (rowT zs k) = true
  | 0, k, _, h => by omega
  | m + 1, k, h1, h2 => by
    unfold trimK at h1
    split at h1
    · rename_i hz
      by_cases e : k = m
      · subst e; exact hz
      · exact trimK_zero zs m k h1 (by omega)
    · omega
theorem trim_last (zs : List Int) : ∀ n, allRows zs n = true → zs.length ≥ n * 24 → max (trimK zs n) 2 = max (lastK zs n) 1 + 1
  | 0, _, _ => by simp [trimK, lastK]
  | m + 1, h, hl => by
    have hm : allRows zs m = true := by
      unfold allRows at h ⊢
      rw [List.all_eq_true] at h ⊢
      exact fun x hx => h x (by simp at hx ⊢; omega)
    have hr := allRows_at h (Nat.lt_succ_self m)
    have hlen : (rowT zs m).length = 24 := by simp [rowT]; omega
    have hk := right_kind _ hlen hr
    have e0 := rowT_get zs m 0 (by omega)
    rw [Nat.add_zero] at e0
    rw [e0] at hk
    have ih := trim_last zs m hm (by omega)
    unfold trimK lastK
    rw [hk]
    by_cases hz : zs.getD (m * 24) 0 = 0
    · rw [if_pos (by simpa using hz), if_pos hz]; exact ih
    · rw [if_neg (by simpa using hz), if_neg hz]; omega
/-- The trimmed table's integers, and how many inodes it has. -/
def tabN (zs : List Int) (n : Nat) : Nat := max (trimK zs n) 2
def tabZ (zs : List Int) (n : Nat) : List Int := zs.take (trimK zs n * 24) ++ List.replicate ((tabN zs n - trimK zs n) * 24) 0
theorem tabZ_len (zs : List Int) (n : Nat) (hz : zs.length = n * 24) : (tabZ zs n).length = tabN zs n * 24 := by
  have := trimK_le zs n
  unfold tabZ tabN
  simp
  omega
theorem tab_row (zs : List Int) (n k : Nat) (hz : zs.length = n * 24) (hk : k < tabN zs n) : rowT (tabZ zs n) k = rowO zs n k := by
  have h1 := trimK_le zs n
  have hl : (zs.take (trimK zs n * 24)).length = trimK zs n * 24 := by simp; omega
  by_cases hlt : k < trimK zs n
  · have : rowT (tabZ zs n) k = rowT zs k := by
      unfold rowT tabZ
      apply List.ext_getElem?
      intro j
      by_cases hj : j < 24
      · rw [List.getElem?_take, if_pos hj, List.getElem?_take, if_pos hj, List.getElem?_drop, List.getElem?_drop, List.getElem?_append_left (by omega), List.getElem?_take, if_pos (by omega)]
      · rw [List.getElem?_take, if_neg hj, List.getElem?_take, if_neg hj]
    rw [this, rowO, if_pos (by omega)]
  · have hzr : rowT (tabZ zs n) k = List.replicate 24 0 := by
      have hlen := rowT_len (tabZ zs n) k (tabN zs n) (tabZ_len zs n hz) hk
      apply List.ext_getElem?
      intro j
      by_cases hj : j < 24
      · unfold rowT tabZ
        rw [List.getElem?_take, if_pos hj, List.getElem?_drop, List.getElem?_append_right (by omega), List.getElem?_replicate, List.getElem?_replicate, if_pos (by rw [hl]; omega), if_pos hj]
      · rw [List.getElem?_eq_none (by omega), List.getElem?_eq_none (by simp; omega)]
    rw [hzr, rowO]
    split
    · exact (zero_row _ (rowT_len zs k n hz ‹_›) (trimK_zero zs n k (by omega) ‹_›)).symm
    · rfl
def okPro (zs : List Int) (n : Nat) : Bool := (decide (2 ≤ (tabN zs n : Int)) && decide ((tabN zs n : Int) ≤ 1001)) && (allRows (tabZ zs n) (tabN zs n) && zeroB (rowT (tabZ zs n) 0))
theorem ok_same (zs : List Int) (n : Nat) (hz : zs.length = n * 24) : okPro zs n = okTab zs n := by
  have h2 : 2 ≤ tabN zs n := by unfold tabN; omega
  have hr0 := tab_row zs n 0 hz (by omega)
  have ha : allRows (tabZ zs n) (tabN zs n) = allRows zs n := by
    cases hc : allRows zs n with
    | true =>
      unfold allRows
      rw [List.all_eq_true]
      intro k hk
      rw [tab_row zs n k hz (by simpa using hk)]
      exact rowO_right hc k
    | false =>
      cases hd : allRows (tabZ zs n) (tabN zs n) with
      | false => rfl
      | true =>
        exfalso
        have : allRows zs n = true := by
          unfold allRows
          rw [List.all_eq_true]
          intro k hk
          have hkn : k < n := by simpa using hk
          by_cases hlt : k < trimK zs n
          · have hkt : k < tabN zs n := by unfold tabN; omega
            have := allRows_at hd hkt
            rw [tab_row zs n k hz hkt, rowO, if_pos hkn] at this
            exact this
          · exact zero_right _ (rowT_len zs k n hz hkn) (trimK_zero zs n k (by omega) hkn)
        rw [hc] at this
        cases this
  unfold okPro okTab
  rw [ha, hr0]
  cases hc : allRows zs n with
  | false => simp
  | true =>
    have ht : tabN zs n = lastT zs n + 1 := trim_last zs n hc (by omega)
    have hd : (decide (2 ≤ (tabN zs n : Int)) && decide ((tabN zs n : Int) ≤ 1001)) = decide (lastT zs n ≤ 1000) := by
      rw [Bool.eq_iff_iff]
      simp only [Bool.and_eq_true, decide_eq_true_eq]
      omega
    rw [hd, Bool.true_and, Bool.true_and, Bool.and_comm]
theorem enc_same (zs : List Int) (n : Nat) (hz : zs.length = n * 24) (h : okTab zs n = true) : ((List.range (tabN zs n)).map fun k => bytesL (rowT (tabZ zs n) k)).flatten = encTab zs n := by
  have hc : allRows zs n = true := by unfold okTab at h; rw [Bool.and_eq_true] at h; exact h.1
  have ht : tabN zs n = lastT zs n + 1 := trim_last zs n hc (by omega)
  unfold encTab
  rw [if_pos h, ← ht]
  congr 1
  apply List.map_congr_left
  intro k hk
  rw [tab_row zs n k hz (by simpa using hk)]
theorem flat_len (zs : List Int) (n : Nat) (hz : zs.length = n * 24) : ∀ m, ((List.range m).map fun k => bytesL (rowO zs n k)).flatten.length = m * 128 := by
  intro m
  induction m with
  | zero => rfl
  | succ m ih =>
    rw [List.range_succ, List.map_append, List.flatten_append, List.length_append, ih]
    simp [bytesL_len _ (rowO_len zs n m hz)]
    omega
theorem encTab_len (zs : List Int) (n : Nat) (hz : zs.length = n * 24) : (encTab zs n).length ≤ 128128 := by
  unfold encTab
  split
  · rename_i h
    have h1 : lastT zs n ≤ 1000 := by unfold okTab at h; simp only [Bool.and_eq_true, decide_eq_true_eq] at h; exact h.2.2
    have : ∀ m, ((List.range m).map fun k => bytesL (rowO zs n k)).flatten.length = m * 128 := by
      intro m
      induction m with
      | zero => rfl
      | succ m ih =>
        rw [List.range_succ, List.map_append, List.flatten_append, List.length_append, ih]
        simp [bytesL_len _ (rowO_len zs n m hz)]
        omega
    rw [this]
    omega
  · simp
end Go.Proofs.YtelcphnlkdffbaaDoor

namespace Go.Proofs.YtelcphnlkdffbaaDoor
set_option linter.unusedVariables false
set_option linter.unusedSimpArgs false
open Go.RowKit

theorem wpList_store_new {P : Program} {ops : Array Oper} {rest : List Oper} {o : Oper} {a : Act} {w : World} {Q : Exit → Act → World → Prop} (B : Nat) (W0 : World) (hgd : o.guard = none) (ty : TypeId) (x y : Operand) (ho : o.op = .store ty x y)
    (g : Nat) (cells : Array Value) (hx : a.eval x = .pointer (some ⟨g, 0, none⟩)) (hy : a.eval y = .agg cells)
    (t : TypeId) (old : Array Value) (hg : Blk w g old t) (hi : (P.info? ty).map (·.size) = some cells.size)
    (hold : old.size = cells.size) (h1 : cells.all (·.oneCell') = true) (hB : Below B W0 w) (hBg : B ≤ g)
    (h : ∀ w2, Blk w2 g cells t → Below B W0 w2 → wpList P ops Q rest (a.put o.dst undef) w2) : wpList P ops Q (o :: rest) a w :=
  wpList_store_row hgd ty x y ho g cells hx hy t old hg hi hold h1 (h _ (hg.row cells) (below_setRow hB hBg cells))

set_option maxRecDepth 100000 in
set_option maxHeartbeats 1000000 in
theorem l05Last_any (v : Value) (n : Nat) (zs : List Int) (w : World) (h : RdT w v n zs) :
    Calls Tryd.prog 24 #[v] w fun e w' => e = .returned (.int .i64 (lastT zs n)) ∧ Below w.heap.size w w' := by
  have hm := h.len
  have hz := h.1
  unfold maxLen at hm
  rcases h.parts with ⟨a, cap, rfl, hlow⟩ | ⟨b, off, cap, rfl, hbw, hcell⟩
  all_goals
    clear h
    go_enter Tryd.func24, Tryd.ntmps24
    go_wp2
    go_loopw [3, 8] (fun x i wr => ∃ k : Nat, k ≤ n ∧ i = .int .i64 k ∧ x = .int .i64 (lastK zs k) ∧ Below w.heap.size w wr) (fun _ i _ => n - (intOf i).toNat)
    case atStart => exact ⟨0, Nat.zero_le _, rfl, rfl, Below.refl _ _⟩
    case round =>
      obtain ⟨k, hk, rfl, rfl, hb1⟩ := hrel
      by_cases hlt : k < n
      · first
        | omega
        | (have hr := range_row (w := wr) (b := b) (off := off) hz hlt (fun i hi => (hb1.cell (p := ⟨b, off + i, none⟩) hbw).trans (hcell i hi))
           have hlen := rowT_len zs k n hz hlt
           have e0 : (rowT zs k).getD 0 0 = zs.getD (k * 24) 0 := rowT_get zs k 0 (by omega)
           have hL : lastK zs (k + 1) = if zs.getD (k * 24) 0 = 0 then lastK zs k else k := rfl
           rw [← e0] at hL
           have HL := hide hL
           have HL := hide hL
           have hg0 := cellsI_get (rowT zs k) 0 (by omega)
           generalize (rowT zs k).getD 0 0 = z at hg0 HL
           have HG := hide hg0
           generalize rowT zs k = r at hr hlen HG
           have HR := hide hr
           have HN := hide hlen
           have HZ := hide (show (cellsI r).size = 24 from by rw [cellsI_size]; exact HN.out)
           have HK := hide (show Blk (wr.alloc (.cells (cellsI (List.replicate 24 0)) 44)) wr.heap.size (cellsI (List.replicate 24 0)) 44 ∧ Below w.heap.size w (wr.alloc (.cells (cellsI (List.replicate 24 0)) 44)) from ⟨Blk.new _ _ _, hb1.alloc hb1.size _⟩)
           have hBs := hb1.size
           clear hr hlen hL hg0 e0 hb1 hcell
           by_cases hk0 : z = 0
           · subst hk0
             have HM := hide (show lastK zs (k + 1) = lastK zs k from by rw [HL.out]; rfl)
             go_wp2_with (first | (refine wpList_load_mid rfl 44 _ rfl b (off + k * 24) rfl (r.map (Value.int .i64)) _ HR.out Tryd.underlying44 rfl (by rw [List.length_map, HN.out]; exact info24) ?_) | (refine wpList_store_new w.heap.size w rfl 44 _ _ rfl wr.heap.size (cellsI r) rfl rfl 44 (cellsI (List.replicate 24 0)) HK.out.1 (by rw [HZ.out]; exact info24) (by rw [HZ.out]; rfl) (cellsI_one _) HK.out.2 hBs ?_; intro w2 k2 b2; have c0 := (k2.cell 0).trans HG.out; have B2 := hide b2; clear k2 b2))
             go_roundw
             case rel => exact ⟨k + 1, by omega, by go_num, by rw [HM.out], B2.out⟩
             case measure => simp [intOf]; omega
           · have HM := hide (show lastK zs (k + 1) = k from by rw [HL.out, if_neg hk0])
             have hkb : (z != 0) = true := by simpa using hk0
             go_wp2_with (first | (refine wpList_load_mid rfl 44 _ rfl b (off + k * 24) rfl (r.map (Value.int .i64)) _ HR.out Tryd.underlying44 rfl (by rw [List.length_map, HN.out]; exact info24) ?_) | (refine wpList_store_new w.heap.size w rfl 44 _ _ rfl wr.heap.size (cellsI r) rfl rfl 44 (cellsI (List.replicate 24 0)) HK.out.1 (by rw [HZ.out]; exact info24) (by rw [HZ.out]; rfl) (cellsI_one _) HK.out.2 hBs ?_; intro w2 k2 b2; have c0 := (k2.cell 0).trans HG.out; have B2 := hide b2; clear k2 b2))
             go_roundw
             case rel => exact ⟨k + 1, by omega, by go_num, by rw [HM.out], B2.out⟩
             case measure => simp [intOf]; omega)
      · have hkn : k = n := by omega
        subst hkn
        have HB := hide hb1
        have hll := lastK_lt zs k
        have hmm : (k : Int) ≤ 9223372036854775807 := by omega
        clear hb1
        by_cases hl1 : lastK zs k < 1
        · have HM := hide (show lastT zs k = 1 from by unfold lastT; omega)
          have hld : ((lastK zs k : Nat) : Int) < 1 := by omega
          go_wp2
          go_ret
          exact ⟨ret_int (by rw [HM.out]; rfl), HB.out⟩
        · have HM := hide (show lastT zs k = lastK zs k from by unfold lastT; omega)
          have hld : ¬ ((lastK zs k : Nat) : Int) < 1 := by omega
          go_wp2
          go_ret
          exact ⟨ret_int (by rw [HM.out]), HB.out⟩

set_option maxRecDepth 100000 in
set_option maxHeartbeats 1000000 in
theorem l05Bytes_any (v : Value) (n : Nat) (zs : List Int) (w : World) (h : RdT w v n zs) (hall : allRows zs n = true) (hlast : lastT zs n ≤ 1000) :
    Calls Tryd.prog 25 #[v] w fun e w' => ∃ v', e = .returned v' ∧ w'.ownsRow w.heap.size 5 1 v' (((List.range (lastT zs n + 1)).map fun k => bytesL (rowO zs n k)).flatten).length ((((List.range (lastT zs n + 1)).map fun k => bytesL (rowO zs n k)).flatten).map (Value.int .u8)) ∧ Below w.heap.size w w' := by
  obtain ⟨i0, hi, hz0, hz1', hz2⟩ := info_parts infoU8
  have HX := hide (And.intro h (And.intro hall hlast))
  have H0 := hide (own_empty w 5)
  have hb0 := hide (show Below w.heap.size w (w.alloc (.cells #[] 5)) from (Below.refl _ _).alloc (Nat.le_refl _) _)
  obtain ⟨hz, a, cap, rfl, _⟩ := h
  clear hall
  generalize hLe : lastT zs n = L at hlast
  have HLe := hide hLe
  clear hLe
  go_enter Tryd.func25, Tryd.ntmps25
  go_wp2
  go_loopw [3, 4] (fun o i wr => ∃ k : Nat, k ≤ L + 1 ∧ i = .int .i64 k ∧ wr.ownsRow w.heap.size 5 1 o (((List.range k).map fun k => bytesL (rowO zs n k)).flatten).length ((((List.range k).map fun k => bytesL (rowO zs n k)).flatten).map (Value.int .u8)) ∧ Below w.heap.size w wr) (fun _ i _ => L + 1 - (intOf i).toNat)
  case atStart => exact ⟨0, by omega, rfl, by simpa using H0.out, hb0.out⟩
  case round =>
    clear H0 hb0
    obtain ⟨k, hk, rfl, hown, hb⟩ := hrel
    have HO := hide hown
    have HB := hide hb
    clear hown hb
    go_wp2_with (go_at_call 24; fail)
    refine (l05Last_any (.slice a n cap) n zs _ (HX.out.1.below HB.out)).mono ?_
    rintro e w1 ⟨rfl, b1⟩
    rw [HLe.out]
    have O1 := hide (own_below HO.out b1)
    have B1 := hide (HB.out.trans (b1.mono HB.out.size))
    have hBs := B1.out.size
    clear b1 HO HB
    by_cases hlt : k ≤ L
    · have HT := hide (show ((List.range (k + 1)).map fun k => bytesL (rowO zs n k)).flatten = ((List.range k).map fun k => bytesL (rowO zs n k)).flatten ++ bytesL (rowO zs n k) from by
        rw [List.range_succ, List.map_append, List.flatten_append]; simp)
      have HLn := hide (flat_len zs n hz k)
      have HRt := hide (rowO_right HX.out.2.1 k)
      have HN := hide (rowO_len zs n k hz)
      by_cases hkn : k < n
      · obtain ⟨b, off, rfl, hbw, hcell⟩ := HX.out.1.get (by omega)
        have hr := range_row (w := w1) (b := b) (off := off) hz hkn (fun i hi => (B1.out.cell (p := ⟨b, off + i, none⟩) hbw).trans (hcell i hi))
        have hro : rowO zs n k = rowT zs k := by rw [rowO, if_pos hkn]
        rw [← hro] at hr
        have hbw1 : b < w1.heap.size := Nat.lt_of_lt_of_le hbw B1.out.size
        generalize rowO zs n k = r at hr HT HRt HN
        have HR := hide (show ∀ w4, Below w1.heap.size w1 w4 → w4.rangeAt b (off + k * 24) (r.map (Value.int .i64)) from fun w4 h4 j v hv => (h4.cell (p := ⟨b, off + k * 24 + j, none⟩) hbw1).trans (hr j v hv))
        have HZ := hide (show (cellsI r).size = 24 from by rw [cellsI_size]; exact HN.out)
        have HK := hide (show Blk (w1.alloc (.cells (cellsI (List.replicate 24 0)) 44)) w1.heap.size (cellsI (List.replicate 24 0)) 44 ∧ Below w1.heap.size w1 (w1.alloc (.cells (cellsI (List.replicate 24 0)) 44)) from ⟨Blk.new _ _ _, (Below.refl _ _).alloc (Nat.le_refl _) _⟩)
        clear hr hro hcell
        go_wp2_with (first | (refine wpList_store_new w1.heap.size w1 rfl 44 _ _ rfl w1.heap.size (cellsI (List.replicate 24 0)) rfl rfl 44 (cellsI (List.replicate 24 0)) HK.out.1 info24 rfl (cellsI_one _) HK.out.2 (Nat.le_refl _) ?_; intro w4 k4 b4; have K4 := hide k4; have B4 := hide b4; clear k4 b4) | (refine wpList_load_mid rfl 44 _ rfl b (off + k * 24) rfl (r.map (Value.int .i64)) _ (HR.out _ B4.out) Tryd.underlying44 rfl (by rw [List.length_map, HN.out]; exact info24) ?_) | (refine wpList_store_new w1.heap.size w1 rfl 44 _ _ rfl w1.heap.size (cellsI r) rfl rfl 44 (cellsI (List.replicate 24 0)) K4.out (by rw [HZ.out]; exact info24) (by rw [HZ.out]; rfl) (cellsI_one _) B4.out (Nat.le_refl _) ?_; intro w5 k5 b5; have K5 := hide k5; have O5 := hide (own_below O1.out b5); have B5 := hide (B1.out.trans (b5.mono B1.out.size)); clear k5 b5 K4 B4) | (refine wpList_load_row rfl 44 _ rfl w1.heap.size rfl 44 (cellsI r) (0, 0) _ K5.out Tryd.underlying44 rfl (by rw [HZ.out]; exact info24) ?_) | (go_at_call 47; fail))
        refine (inodeBytesL r _ HN.out HRt.out).mono ?_
        rintro e w6 ⟨v6, rfl, o6, b6⟩
        have hs6 := b6.size
        have O6 := hide (own_below O5.out b6)
        have B6 := hide (B5.out.trans (b6.mono B5.out.size))
        obtain ⟨bd, off6, cp, rfl, hbw6, _, _, hcell6⟩ := (Rd.own (zs := bytesL r) o6).partsC (by rw [bytesL_len r HN.out]; omega)
        have hl6 := bytesL_len r HN.out
        have HX6 := hide (show ∀ (j : Nat) (u : Value), ((bytesL r).map (Value.int .u8))[j]? = some u → w6.cell? ((⟨bd, off6, none⟩ : Addr).add j) = some u from fun j u hj => by
          have hjl : j < (bytesL r).length := by
            rcases Nat.lt_or_ge j (bytesL r).length with h | h
            · exact h
            · rw [List.getElem?_eq_none (by simpa using h)] at hj; cases hj
          rw [Addr.add_mid, hcell6 j hjl]
          rw [List.getElem?_map, List.getElem?_eq_getElem hjl] at hj
          simp at hj
          rw [← hj]
          simp [List.getD, hjl])
        have hcap6 : (((List.range k).map fun k => bytesL (rowO zs n k)).flatten).length ≤ 128128 := by rw [HLn.out]; omega
        have HL6 := hide hl6
        rw [hl6]
        clear hcell6 o6 b6 O5 B5 K5 hl6
        go_wp2_with (at_builtin; refine append_fresh _ rfl (.tmp 22) (.tmp 24) 24 rfl w.heap.size 5 i0 (.int .u8 0) 1 1 Tryd.underlying24 hi hz0 hz1' hz2 rfl (by decide) _ _ _ rfl O6.out ⟨bd, off6, none⟩ 128 cp ((bytesL r).map (Value.int .u8)) rfl (by rw [List.length_map, HL6.out]) HX6.out (ints_oneCell _ _) (by omega) (by unfold maxLen; omega) (by omega) (B6.out.size) ?_; intro v7 w7 o7 g7 f7)
        have HW := hide (show w7.ownsRow w.heap.size 5 1 v7 (((List.range (k + 1)).map fun k => bytesL (rowO zs n k)).flatten).length ((((List.range (k + 1)).map fun k => bytesL (rowO zs n k)).flatten).map (Value.int .u8)) ∧ Below w.heap.size w w7 from by
          refine ⟨?_, B6.out.grown g7 B6.out.size (fun r h => (O6.out.lt r h).1)⟩
          rw [HT.out, List.map_append, List.length_append, HL6.out]
          exact o7)
        clear o7 g7 f7
        go_roundw
        case rel => exact ⟨k + 1, by omega, by go_num, HW.out.1, HW.out.2⟩
        case measure => simp [intOf]; omega
      · have hro : rowO zs n k = List.replicate 24 0 := by rw [rowO, if_neg hkn]
        have HK := hide (show Blk (w1.alloc (.cells (cellsI (List.replicate 24 0)) 44)) w1.heap.size (cellsI (List.replicate 24 0)) 44 ∧ Below w1.heap.size w1 (w1.alloc (.cells (cellsI (List.replicate 24 0)) 44)) from ⟨Blk.new _ _ _, (Below.refl _ _).alloc (Nat.le_refl _) _⟩)
        rw [← hro] at HK
        have HRo := hide hro
        generalize rowO zs n k = r at HT HRt HN HRo HK
        have HZ := hide (show (cellsI r).size = 24 from by rw [cellsI_size]; exact HN.out)
        go_wp2_with (first | (refine wpList_store_new w1.heap.size w1 rfl 44 _ _ rfl w1.heap.size (cellsI r) rfl (by rw [HRo.out]; rfl) 44 (cellsI (List.replicate 24 0)) (by have h := HK.out.1; rw [HRo.out] at h; exact h) (by rw [HZ.out]; exact info24) (by rw [HZ.out]; rfl) (cellsI_one _) (by have h := HK.out.2; rw [HRo.out] at h; exact h) (Nat.le_refl _) ?_; intro w5 k5 b5; have K5 := hide k5; have O5 := hide (own_below O1.out b5); have B5 := hide (B1.out.trans (b5.mono B1.out.size)); clear k5 b5) | (refine wpList_load_row rfl 44 _ rfl w1.heap.size rfl 44 (cellsI r) (0, 0) _ K5.out Tryd.underlying44 rfl (by rw [HZ.out]; exact info24) ?_) | (go_at_call 47; fail))
        refine (inodeBytesL r _ HN.out HRt.out).mono ?_
        rintro e w6 ⟨v6, rfl, o6, b6⟩
        have hs6 := b6.size
        have O6 := hide (own_below O5.out b6)
        have B6 := hide (B5.out.trans (b6.mono B5.out.size))
        obtain ⟨bd, off6, cp, rfl, hbw6, _, _, hcell6⟩ := (Rd.own (zs := bytesL r) o6).partsC (by rw [bytesL_len r HN.out]; omega)
        have hl6 := bytesL_len r HN.out
        have HX6 := hide (show ∀ (j : Nat) (u : Value), ((bytesL r).map (Value.int .u8))[j]? = some u → w6.cell? ((⟨bd, off6, none⟩ : Addr).add j) = some u from fun j u hj => by
          have hjl : j < (bytesL r).length := by
            rcases Nat.lt_or_ge j (bytesL r).length with h | h
            · exact h
            · rw [List.getElem?_eq_none (by simpa using h)] at hj; cases hj
          rw [Addr.add_mid, hcell6 j hjl]
          rw [List.getElem?_map, List.getElem?_eq_getElem hjl] at hj
          simp at hj
          rw [← hj]
          simp [List.getD, hjl])
        have hcap6 : (((List.range k).map fun k => bytesL (rowO zs n k)).flatten).length ≤ 128128 := by rw [HLn.out]; omega
        have HL6 := hide hl6
        rw [hl6]
        clear hcell6 o6 b6 O5 B5 K5 hl6
        go_wp2_with (at_builtin; refine append_fresh _ rfl (.tmp 22) (.tmp 24) 24 rfl w.heap.size 5 i0 (.int .u8 0) 1 1 Tryd.underlying24 hi hz0 hz1' hz2 rfl (by decide) _ _ _ rfl O6.out ⟨bd, off6, none⟩ 128 cp ((bytesL r).map (Value.int .u8)) rfl (by rw [List.length_map, HL6.out]) HX6.out (ints_oneCell _ _) (by omega) (by unfold maxLen; omega) (by omega) (B6.out.size) ?_; intro v7 w7 o7 g7 f7)
        have HW := hide (show w7.ownsRow w.heap.size 5 1 v7 (((List.range (k + 1)).map fun k => bytesL (rowO zs n k)).flatten).length ((((List.range (k + 1)).map fun k => bytesL (rowO zs n k)).flatten).map (Value.int .u8)) ∧ Below w.heap.size w w7 from by
          refine ⟨?_, B6.out.grown g7 B6.out.size (fun r h => (O6.out.lt r h).1)⟩
          rw [HT.out, List.map_append, List.length_append, HL6.out]
          exact o7)
        clear o7 g7 f7
        go_roundw
        case rel => exact ⟨k + 1, by omega, by go_num, HW.out.1, HW.out.2⟩
        case measure => simp [intOf]; omega
    · have hke : k = L + 1 := by omega
      subst hke
      go_wp2
      go_ret
      exact ⟨_, rfl, O1.out, B1.out⟩
end Go.Proofs.YtelcphnlkdffbaaDoor

namespace Go.Proofs.YtelcphnlkdffbaaDoor
set_option linter.unusedVariables false
set_option linter.unusedSimpArgs false
open Go.RowKit

theorem allRows_step {zs : List Int} {k : Nat} (h : allRows zs k = true) (hr : rightL (rowT zs k) = true) : allRows zs (k + 1) = true := by
  unfold allRows at h ⊢
  rw [List.range_succ, List.all_append, h]
  simp [hr]
theorem allRows_not {zs : List Int} {n k : Nat} (hk : k < n) (hr : rightL (rowT zs k) = false) : allRows zs n = false := by
  cases h : allRows zs n with
  | false => rfl
  | true => rw [allRows_at h hk] at hr; cases hr
theorem wpList_neqG {P : Program} {ops : Array Oper} {rest : List Oper} {o : Oper} {a : Act} {w : World} {Q : Exit → Act → World → Prop} (hw : Region.wanted o (yielded ops a.tmps) = true) (t u : TypeId) (x y : Operand) (ho : o.op = .binOp .neq t x y u)
    (cs ds : Array Value) (hx : a.eval x = .agg cs) (hy : a.eval y = .agg ds) (hm : P.eqGuardType P.depth t = false) (b : Bool) (hE : (Op.equalIn 10000 t (.agg cs) (.agg ds)).run P w = .ok b w)
    (h : wpList P ops Q rest (a.put o.dst (.bool (!b))) w) : wpList P ops Q (o :: rest) a w := by
  refine Go.BigFrame.wpList_want hw fun K hK => ?_
  have hrun : (execOp a.eval o).run P w = .ok (.value (.bool (!b))) w := by
    simp [execOp, ho, hx, hy, run_eqGuard_agg w _ _ _ _ _ _ hm, run_neq_struct, hE, Result.andThen]
  unfold Oper.wp
  rw [hrun, Oper.upon_value]
  exact hK _ _ h
theorem codeTab_not {zs : List Int} {n : Nat} (h : okTab zs n = false) : codeTab zs n = 7 ∧ encTab zs n = [] := by
  unfold codeTab encTab; rw [h]; exact ⟨rfl, rfl⟩
theorem own_none {w : World} {base : Nat} {zs : List Int} {n : Nat} (h : okTab zs n = false) : w.ownsRow base 5 1 (.slice none 0 0) (encTab zs n).length ((encTab zs n).map (Value.int .u8)) := by
  rw [(codeTab_not h).2]
  exact World.ownsRow_nil _ _ _ _
set_option maxRecDepth 100000 in
set_option maxHeartbeats 1000000 in
theorem specTab_any (v : Value) (n : Nat) (zs : List Int) (w : World) (h : RdT w v n zs) :
    Calls Tryd.prog 7 #[v] w fun e w' => ∃ v', e = .returned (.tuple #[v', .int .i64 (codeTab zs n)]) ∧ w'.ownsRow w.heap.size 5 1 v' (encTab zs n).length ((encTab zs n).map (Value.int .u8)) ∧ Below w.heap.size w w' := by
  have HX := hide h
  have hm := h.len
  have hz := h.1
  unfold maxLen at hm
  rcases h.parts with ⟨a, cap, rfl, hlow⟩ | ⟨b, off, cap, rfl, hbw, hcell⟩
  all_goals
    clear h
    go_enter Tryd.func7, Tryd.ntmps7
    go_wp2
    go_loopw [8] (fun i wr => ∃ k : Nat, k ≤ n ∧ i = .int .i64 k ∧ allRows zs k = true ∧ Below w.heap.size w wr) (fun i _ => n - (intOf i).toNat)
    case atStart => exact ⟨0, Nat.zero_le _, rfl, rfl, Below.refl _ _⟩
    case round =>
      obtain ⟨k, hk, rfl, hal, hb1⟩ := hrel
      have HA := hide hal
      clear hal
      by_cases hlt : k < n
      · first
        | omega
        | (have hr := range_row (w := wr) (b := b) (off := off) hz hlt (fun i hi => (hb1.cell (p := ⟨b, off + i, none⟩) hbw).trans (hcell i hi))
           have hlen := rowT_len zs k n hz hlt
           have HS := hide (fun h => allRows_step HA.out (show rightL (rowT zs k) = true from h))
           have HNo := hide (fun h => allRows_not hlt (show rightL (rowT zs k) = false from h))
           generalize rowT zs k = r at hr hlen HS HNo
           have HR := hide hr
           have HN := hide hlen
           have HZ := hide (show (cellsI r).size = 24 from by rw [cellsI_size]; exact HN.out)
           have HK := hide (show Blk (wr.alloc (.cells (cellsI (List.replicate 24 0)) 44)) wr.heap.size (cellsI (List.replicate 24 0)) 44 ∧ Below w.heap.size w (wr.alloc (.cells (cellsI (List.replicate 24 0)) 44)) from ⟨Blk.new _ _ _, hb1.alloc hb1.size _⟩)
           have hBs := hb1.size
           clear hr hlen hb1 hcell
           go_wp2_with (first | (refine wpList_load_mid rfl 44 _ rfl b (off + k * 24) rfl (r.map (Value.int .i64)) _ HR.out Tryd.underlying44 rfl (by rw [List.length_map, HN.out]; exact info24) ?_) | (refine wpList_store_new w.heap.size w rfl 44 _ _ rfl wr.heap.size (cellsI r) rfl rfl 44 (cellsI (List.replicate 24 0)) HK.out.1 (by rw [HZ.out]; exact info24) (by rw [HZ.out]; rfl) (cellsI_one _) HK.out.2 hBs ?_; intro w2 k2 b2; have K2 := hide k2; have B2 := hide b2; clear k2 b2) | (refine wpList_load_row rfl 44 _ rfl wr.heap.size rfl 44 (cellsI r) (0, 0) _ K2.out Tryd.underlying44 rfl (by rw [HZ.out]; exact info24) ?_) | (go_at_call 23; fail))
           refine (l02InodeL r _ HN.out).mono ?_
           rintro e w3 ⟨rfl, b3⟩
           have B3 := hide (B2.out.trans (b3.mono B2.out.size))
           clear b3 B2 K2
           cases hrr : rightL r with
           | false =>
             have HO := hide (show okTab zs n = false from by unfold okTab; rw [HNo.out hrr, Bool.false_and])
             clear hrr
             go_wp2
             go_ret2
             rw [(codeTab_not HO.out).1]
             exact ⟨_, rfl, own_none HO.out, B3.out⟩
           | true =>
             have HA2 := hide (HS.out hrr)
             clear hrr
             go_wp2
             go_roundw
             case rel => exact ⟨k + 1, by omega, by go_num, HA2.out, B3.out⟩
             case measure => simp [intOf]; omega)
      · have hkn : k = n := by omega
        subst hkn
        have HB := hide hb1
        clear hb1
        by_cases hk0 : k = 0
        · subst hk0
          have HO := hide (show okTab zs 0 = decide (lastT zs 0 ≤ 1000) from by unfold okTab; rw [HA.out, Bool.true_and, show zeroB (rowO zs 0 0) = true from rfl, Bool.true_and])
          have HL1 := hide (show lastT zs 0 = 1 from rfl)
          go_wp2_with (go_at_call 24; fail)
          refine (l05Last_any _ 0 zs _ (HX.out.below HB.out)).mono ?_
          rintro e w1 ⟨rfl, b1⟩
          rw [HL1.out]
          have B1 := hide (HB.out.trans (b1.mono HB.out.size))
          clear b1
          go_wp2_with (go_at_call 25; fail)
          refine (l05Bytes_any _ 0 zs _ (HX.out.below B1.out) HA.out (by rw [HL1.out]; omega)).mono ?_
          rintro e w2 ⟨v2, rfl, o2, b2⟩
          have HE := hide (show okTab zs 0 = true from by rw [HO.out, HL1.out]; rfl)
          have HW := hide (show w2.ownsRow w.heap.size 5 1 v2 (encTab zs 0).length ((encTab zs 0).map (Value.int .u8)) ∧ Below w.heap.size w w2 from ⟨by
            unfold encTab; rw [if_pos HE.out]
            exact own_mono o2 B1.out.size, B1.out.trans (b2.mono B1.out.size)⟩)
          have HC := hide (show codeTab zs 0 = 0 from by unfold codeTab; rw [if_pos HE.out])
          clear o2 b2
          go_wp2
          go_ret2
          rw [HC.out]
          exact ⟨_, rfl, HW.out.1, HW.out.2⟩
        · first
          | omega
          | (skip
             have hr := range_row (w := wr) (b := b) (off := off) (k := 0) hz (by omega) (fun i hi => (HB.out.cell (p := ⟨b, off + i, none⟩) hbw).trans (hcell i hi))
             rw [Nat.zero_mul, Nat.add_zero] at hr
             have hlen := rowT_len zs 0 k hz (by omega)
             have HO := hide (show okTab zs k = (zeroB (rowT zs 0) && decide (lastT zs k ≤ 1000)) from by unfold okTab; rw [HA.out, Bool.true_and, rowO, if_pos (by omega)])
             generalize rowT zs 0 = r at hr hlen HO
             have HR := hide hr
             have HN := hide hlen
             have HE := hide (fun w => eqInoL w r HN.out)
             have hkp : (0 : Int) < (k : Int) := by omega
             clear hr hlen hcell
             cases hzr : zeroB r with
             | false =>
               have HO2 := hide (show okTab zs k = false from by rw [HO.out, hzr]; rfl)
               have HE2 := hide (fun w => (HE.out w).trans (by rw [hzr]))
               clear hzr HE HO
               go_wp2_with (first | (refine wpList_load_midG (by first | rfl | simp [Region.wanted, yielded]) 44 _ rfl b off rfl (r.map (Value.int .i64)) _ HR.out Tryd.underlying44 rfl (by rw [List.length_map, HN.out]; exact info24) ?_) | (refine wpList_neqG (by first | rfl | simp [Region.wanted, yielded]) 44 _ _ _ rfl (cellsI r) (cellsI (List.replicate 24 0)) rfl rfl guardIno false (HE2.out _) ?_))
               go_ret2
               rw [(codeTab_not HO2.out).1]
               exact ⟨_, rfl, own_none HO2.out, HB.out⟩
             | true =>
               have HO2 := hide (show okTab zs k = decide (lastT zs k ≤ 1000) from by rw [HO.out, hzr, Bool.true_and])
               have HE2 := hide (fun w => (HE.out w).trans (by rw [hzr]))
               clear hzr HE HO
               go_wp2_with (first | (refine wpList_load_midG (by first | rfl | simp [Region.wanted, yielded]) 44 _ rfl b off rfl (r.map (Value.int .i64)) _ HR.out Tryd.underlying44 rfl (by rw [List.length_map, HN.out]; exact info24) ?_) | (refine wpList_neqG (by first | rfl | simp [Region.wanted, yielded]) 44 _ _ _ rfl (cellsI r) (cellsI (List.replicate 24 0)) rfl rfl guardIno true (HE2.out _) ?_) | (go_at_call 24; fail))
               refine (l05Last_any _ k zs _ (HX.out.below HB.out)).mono ?_
               rintro e w1 ⟨rfl, b1⟩
               have B1 := hide (HB.out.trans (b1.mono HB.out.size))
               clear b1
               by_cases hL : lastT zs k ≤ 1000
               · have HE3 := hide (show okTab zs k = true from by rw [HO2.out]; simpa using hL)
                 have HL3 := hide hL
                 have hLi : ¬ (1000 : Int) < ((lastT zs k : Nat) : Int) := by omega
                 go_wp2_with (go_at_call 25; fail)
                 refine (l05Bytes_any _ k zs _ (HX.out.below B1.out) HA.out HL3.out).mono ?_
                 rintro e w2 ⟨v2, rfl, o2, b2⟩
                 have HW := hide (show w2.ownsRow w.heap.size 5 1 v2 (encTab zs k).length ((encTab zs k).map (Value.int .u8)) ∧ Below w.heap.size w w2 from ⟨by
                   unfold encTab; rw [if_pos HE3.out]
                   exact own_mono o2 B1.out.size, B1.out.trans (b2.mono B1.out.size)⟩)
                 have HC := hide (show codeTab zs k = 0 from by unfold codeTab; rw [if_pos HE3.out])
                 clear o2 b2
                 go_wp2
                 go_ret2
                 rw [HC.out]
                 exact ⟨_, rfl, HW.out.1, HW.out.2⟩
               · have HE3 := hide (show okTab zs k = false from by rw [HO2.out]; simpa using hL)
                 have hLi : (1000 : Int) < ((lastT zs k : Nat) : Int) := by omega
                 go_wp2
                 go_ret2
                 rw [(codeTab_not HE3.out).1]
                 exact ⟨_, rfl, own_none HE3.out, B1.out⟩)
end Go.Proofs.YtelcphnlkdffbaaDoor

namespace Go.Proofs.YtelcphnlkdffbaaDoor
set_option linter.unusedVariables false
set_option linter.unusedSimpArgs false
open Go.RowKit

section
variable {P : Program}
theorem run_copy_rowS (w : World) (dT sT ty elem : TypeId) (c m g o dLen dCap : Nat) (a : Addr) (sLen sCap : Nat) (cur : Array Value) (t : TypeId) (cs : List Value)
    (hu : P.underlying dT = some (.slice elem)) (hs : (P.info? elem).map (·.size) = some c)
    (hg : w.heap[g]? = some (.cells cur t (0, 0))) (hm : Nat.min sLen dLen = m) (hn : cs.length = m * c)
    (hsrc : ∀ j v, cs[j]? = some v → w.cell? (a.add j) = some v) (hfit : o + cs.length ≤ cur.size) (h1 : ∀ v ∈ cs, v.oneCell' = true) :
    (Builtin.copy_ #[dT, sT] ty #[.slice (some ⟨g, o, none⟩) dLen dCap, .slice (some a) sLen sCap]).run P w =
      .ok (goInt m) (w.setRow g (cur.toList.take o ++ cs ++ cur.toList.drop (o + cs.length)).toArray) := by
  have hl := run_loadCells_list (P := P) w a cs hsrc
  have hst := run_storeCells_at P g o t cs 0 cur w hg (by simpa using hfit) h1
  cases hq : P.info? elem with
  | none => simp [hq] at hs
  | some i =>
    have hi : i.size = c := by simpa [hq] using hs
    rw [hn] at hl
    simp [Builtin.copy_, run_underlying hu, Builtin.lenOf, Builtin.firstCells, sizeOf, typeInfo, hq, hi, hm, hl, hst]
theorem run_copy_noneS (w : World) (dT sT ty elem : TypeId) (c : Nat) (d a : Option Addr) (dLen dCap sLen sCap : Nat) (hu : P.underlying dT = some (.slice elem)) (hs : (P.info? elem).map (·.size) = some c) (hn : Nat.min sLen dLen = 0) :
    (Builtin.copy_ #[dT, sT] ty #[.slice d dLen dCap, .slice a sLen sCap]).run P w = .ok (goInt 0) w := by
  cases hq : P.info? elem with
  | none => simp [hq] at hs
  | some i =>
    have hl : ∀ (x : Addr), (loadCells x 0).run P w = .ok #[] w := fun x => by simpa using run_loadCells_list (P := P) w x [] (by simp)
    cases d <;> cases a <;> simp [Builtin.copy_, run_underlying hu, Builtin.lenOf, Builtin.firstCells, sizeOf, typeInfo, hq, hn, storeCells, hl]
/-- copy(dst, src), dst at the head of a row that is known whole, elements of c cells. -/
theorem wpList_copyS {w : World} {ops : Array Oper} {rest : List Oper} {o : Oper} {a : Act} {Q : Exit → Act → World → Prop} (hgd : o.guard = none) (d s : Operand) (dT sT : TypeId)
    (ho : o.op = .call { callee := .builtin .copy, args := #[d, s], argTypes := #[dT, sT] }) (elem : TypeId) (c : Nat) (hu : P.underlying dT = some (.slice elem)) (hsz : (P.info? elem).map (·.size) = some c)
    (sp : Option Addr) (g dLen dCap sLen sCap : Nat) (hd : a.eval d = .slice (some ⟨g, 0, none⟩) dLen dCap) (hs : a.eval s = .slice sp sLen sCap)
    (cur : List Value) (t : TypeId) (hg : w.heap[g]? = some (.cells cur.toArray t (0, 0))) (cs : List Value) (m : Nat) (hm : Nat.min sLen dLen = m) (hn : cs.length = m * c)
    (hpos : 0 < m → ∃ ad, sp = some ad ∧ ∀ j v, cs[j]? = some v → w.cell? (ad.add j) = some v)
    (hfit : cs.length ≤ cur.length) (h1 : ∀ v ∈ cs, v.oneCell' = true) (B : Nat) (w0 : World) (hb : Below B w0 w) (hBg : B ≤ g)
    (h : ∀ w', Hid (w'.heap[g]? = some (.cells (cs ++ cur.drop cs.length).toArray t (0, 0))) → Below B w0 w' → wpList P ops Q rest (a.put o.dst (goInt m)) w') :
    wpList P ops Q (o :: rest) a w := by
  refine wpList_plain hgd fun K hK => ?_
  rcases Nat.eq_zero_or_pos m with h0 | h0
  · subst h0
    obtain rfl : cs = [] := List.eq_nil_of_length_eq_zero (by simpa using hn)
    have hrun := run_copy_noneS (P := P) w dT sT o.type elem c (some ⟨g, 0, none⟩) sp dLen dCap sLen sCap hu hsz hm
    unfold Oper.wp
    simp [execOp, ho, resolve, invoke, builtin, hd, hs, hrun, Result.andThen]
    exact hK _ _ (h w (show _ = _ by simpa using hg) hb)
  · obtain ⟨ad, rfl, hsrc⟩ := hpos h0
    have hrun := run_copy_rowS (P := P) w dT sT o.type elem c m g 0 dLen dCap ad sLen sCap cur.toArray t cs hu hsz hg hm hn hsrc (by simpa using hfit) h1
    unfold Oper.wp
    simp [execOp, ho, resolve, invoke, builtin, hd, hs, hrun, Result.andThen]
    exact hK _ _ (h _ (show _ = _ by simpa using setRow_heap w g _ _ t _ hg) (below_setRow hb hBg _))
theorem wpList_eqlG {ops : Array Oper} {rest : List Oper} {o : Oper} {a : Act} {w : World} {Q : Exit → Act → World → Prop} (hw : Region.wanted o (yielded ops a.tmps) = true) (t u : TypeId) (x y : Operand) (ho : o.op = .binOp .eql t x y u)
    (cs ds : Array Value) (hx : a.eval x = .agg cs) (hy : a.eval y = .agg ds) (hm : P.eqGuardType P.depth t = false) (b : Bool) (hE : (Op.equalIn 10000 t (.agg cs) (.agg ds)).run P w = .ok b w)
    (h : wpList P ops Q rest (a.put o.dst (.bool b)) w) : wpList P ops Q (o :: rest) a w := by
  refine Go.BigFrame.wpList_want hw fun K hK => ?_
  have hrun : (execOp a.eval o).run P w = .ok (.value (.bool b)) w := by
    simp [execOp, ho, hx, hy, run_eqGuard_agg w _ _ _ _ _ _ hm, run_eql_struct, hE, Result.andThen]
  unfold Oper.wp
  rw [hrun, Oper.upon_value]
  exact hK _ _ h
end

theorem own_row {w : World} {base g n : Nat} {e : TypeId} {xs : List Value} (h : w.ownsRow base e 24 (.slice (some ⟨g, 0, none⟩) n n) n xs) : w.heap[g]? = some (.cells xs.toArray e (0, 0)) := by
  rcases h.2 with ⟨e0, _⟩ | ⟨g', cap, cur, e1, hb, hg, hnc, hcm, hcs, htake⟩
  · simp at e0
  · injection e1 with e1 e2 e3
    injection e1 with e1
    injection e1 with e4
    subst e3 e4
    rw [List.take_of_length_le (by simp; omega)] at htake
    rw [hg, ← htake]
theorem trimK_step {zs : List Int} {m : Nat} (h : zeroB (rowT zs m) = true) : trimK zs (m + 1) = trimK zs m := by rw [trimK, if_pos h]
theorem trimK_stop {zs : List Int} {m : Nat} (h : zeroB (rowT zs m) = false) : trimK zs (m + 1) = m + 1 := by rw [trimK, if_neg (by rw [h]; simp)]
theorem tab_splice (zs : List Int) (n k : Nat) (hz : zs.length = n * 24) (hk : trimK zs n = k) (hkn : k ≤ n) : (zs.take (k * 24)).map (Value.int .i64) ++ (List.replicate (tabN zs n * 24) (Value.int .i64 0)).drop ((zs.take (k * 24)).map (Value.int .i64)).length = (tabZ zs n).map (Value.int .i64) := by
  unfold tabZ
  rw [hk, List.map_append, List.length_map, List.map_replicate, List.drop_replicate]
  congr 2
  simp
  omega

set_option maxRecDepth 100000 in
set_option maxHeartbeats 1000000 in
theorem tableOf_any (v : Value) (n : Nat) (zs : List Int) (w : World) (h : RdT w v n zs) (hn : n ≤ 1048576) :
    Calls Tryd.prog 27 #[v] w fun e w' => ∃ v', e = .returned v' ∧ w'.ownsRow w.heap.size 44 24 v' (tabN zs n) ((tabZ zs n).map (Value.int .i64)) ∧ Below w.heap.size w w' := by
  obtain ⟨i0, hi, hz0, hz1, hz2⟩ := info_parts infoT24
  have HX := hide h
  have hm := h.len
  have hz := h.1
  obtain ⟨a, cap, rfl, hcp⟩ := h.2
  have hcap := hcp.2
  clear h hcp
  go_enter Tryd.func27, Tryd.ntmps27
  go_wp2
  go_loop [3] (fun i => ∃ k : Nat, k ≤ n ∧ i = .int .i64 k ∧ trimK zs n = trimK zs k) (fun i => (intOf i).toNat)
  case atStart => exact ⟨n, Nat.le_refl _, rfl, rfl⟩
  case round =>
    obtain ⟨k, hk, rfl, he⟩ := hrel
    have HE := hide he
    clear he
    unfold maxLen at hm hcap
    have HSr0 := hide (show ∀ w1, Below w.heap.size w w1 → ∀ k', k' ≤ n → 0 < k' → ∃ ad, a = some ad ∧ ∀ (j : Nat) (u : Value), ((zs.take (k' * 24)).map (Value.int .i64))[j]? = some u → w1.cell? (ad.add j) = some u from by
      intro w1 hb1 k' hk' h0
      obtain ⟨b, off, rfl, hbw, hcell⟩ := HX.out.get (by omega)
      refine ⟨_, rfl, fun j u hj => ?_⟩
      have hjl : j < k' * 24 := by
        have := (List.getElem?_eq_some_iff.1 hj).1
        simp at this
        omega
      rw [Addr.add_mid, hb1.cell (p := ⟨b, off + j, none⟩) hbw, hcell j (by omega)]
      rw [List.getElem?_map, List.getElem?_take, if_pos hjl, List.getElem?_eq_getElem (show j < zs.length by omega)] at hj
      simp at hj
      rw [← hj]
      simp [List.getD, show j < zs.length by omega])
    by_cases hk0 : k = 0
    · subst hk0
      have HT := hide (show tabN zs n = 2 from by unfold tabN; rw [HE.out]; rfl)
      have HS := hide (by have h := tab_splice zs n 0 hz HE.out (by omega); rw [HT.out] at h; exact h)
      have HSrc := hide (fun w1 hb1 => HSr0.out w1 hb1 0 (by omega))
      go_wp2_with (first | (refine wpList_make_full _ rfl (.tmp 21) (.tmp 21) 27 rfl w.heap.size 44 i0 (.agg (cellsI (List.replicate 24 0))) 24 Tryd.underlying27 hi hz0 hz1 .i64 .i64 (2) (2) (2) rfl rfl (by first | rfl | omega) (by first | rfl | omega) (by rw [hz2]; omega) (by unfold maxLen; omega) (Nat.le_refl _) ?_; intro w1 hown hgrow; rw [made_zero24, List.map_replicate] at hown; have HO1 := hide (And.intro (own_row hown) (show Below w.heap.size w w1 from (Below.refl _ _).grown hgrow (Nat.le_refl _) (fun k h => by cases h))); clear hown hgrow) | (refine wpList_copyS rfl (.tmp 23) (.tmp 26) 27 27 rfl 44 24 Tryd.underlying27 info24 _ w.heap.size (2) (2) (0) _ rfl rfl (List.replicate ((2) * 24) (.int .i64 0)) 44 HO1.out.1 ((zs.take ((0) * 24)).map (Value.int .i64)) (0) (by simp [Nat.min_def] <;> omega) (by simp <;> omega) (HSrc.out _ HO1.out.2) (by simp <;> omega) (ints_oneCell _ _) w.heap.size w HO1.out.2 (Nat.le_refl _) ?_; intro w2 H2 hB2; have B2 := hide hB2; clear hB2))
      go_ret
      refine ⟨_, rfl, ?_, B2.out⟩
      have h2 := H2.out
      rw [HS.out] at h2
      rw [HT.out]
      exact blk_own h2 (by rw [tabZ_len zs n hz, HT.out]) (Nat.le_refl _) (by unfold maxLen; omega)
    · obtain ⟨m, rfl⟩ : ∃ m, k = m + 1 := ⟨k - 1, by omega⟩
      have HSrc := hide (fun w1 hb1 => HSr0.out w1 hb1 (m + 1) (by omega))
      obtain ⟨b, off, rfl, hbw, hcell⟩ := HX.out.get (by omega)
      have hr := range_row (w := w) (b := b) (off := off) (k := m) hz (by omega) hcell
      have hlen := rowT_len zs m n hz (by omega)
      have hEq := eqInoL
      cases hzr : zeroB (rowT zs m) with
      | true =>
        have HG := hide (HE.out.trans (trimK_step hzr))
        generalize rowT zs m = r at hr hlen hzr
        have HR := hide hr
        have HN := hide hlen
        have HE2 := hide (fun w => (eqInoL w r HN.out).trans (by rw [hzr]))
        clear hr hlen hzr hcell hEq HSr0
        go_wp2_with (first | (refine wpList_load_midG (by first | rfl | simp [Region.wanted, yielded]) 44 _ rfl b (off + m * 24) rfl (r.map (Value.int .i64)) _ HR.out Tryd.underlying44 rfl (by rw [List.length_map, HN.out]; exact info24) ?_) | (refine wpList_eqlG (by first | rfl | simp [Region.wanted, yielded]) 44 _ _ _ rfl (cellsI r) (cellsI (List.replicate 24 0)) rfl rfl guardIno true (HE2.out _) ?_) )
        go_round
        case rel => exact ⟨m, by omega, by go_num, HG.out⟩
        case measure => simp [intOf]
      | false =>
        have HG := hide (HE.out.trans (trimK_stop hzr))
        generalize rowT zs m = r at hr hlen hzr
        have HR := hide hr
        have HN := hide hlen
        have HE2 := hide (fun w => (eqInoL w r HN.out).trans (by rw [hzr]))
        clear hr hlen hzr hcell hEq HSr0
        by_cases hm1 : m = 0
        · subst hm1
          have HT := hide (show tabN zs n = 2 from by unfold tabN; rw [HG.out]; rfl)
          have HS := hide (by have h := tab_splice zs n (0 + 1) hz HG.out (by omega); rw [HT.out] at h; exact h)
          go_wp2_with (first | (refine wpList_load_midG (by first | rfl | simp [Region.wanted, yielded]) 44 _ rfl b (off) rfl (r.map (Value.int .i64)) _ HR.out Tryd.underlying44 rfl (by rw [List.length_map, HN.out]; exact info24) ?_) | (refine wpList_eqlG (by first | rfl | simp [Region.wanted, yielded]) 44 _ _ _ rfl (cellsI r) (cellsI (List.replicate 24 0)) rfl rfl guardIno false (HE2.out _) ?_) | (refine wpList_make_full _ rfl (.tmp 21) (.tmp 21) 27 rfl w.heap.size 44 i0 (.agg (cellsI (List.replicate 24 0))) 24 Tryd.underlying27 hi hz0 hz1 .i64 .i64 (2) (2) (2) rfl rfl (by first | rfl | omega) (by first | rfl | omega) (by rw [hz2]; omega) (by unfold maxLen; omega) (Nat.le_refl _) ?_; intro w1 hown hgrow; rw [made_zero24, List.map_replicate] at hown; have HO1 := hide (And.intro (own_row hown) (show Below w.heap.size w w1 from (Below.refl _ _).grown hgrow (Nat.le_refl _) (fun k h => by cases h))); clear hown hgrow) | (refine wpList_copyS rfl (.tmp 23) (.tmp 26) 27 27 rfl 44 24 Tryd.underlying27 info24 _ w.heap.size (2) (2) (0 + 1) _ rfl rfl (List.replicate ((2) * 24) (.int .i64 0)) 44 HO1.out.1 ((zs.take ((0 + 1) * 24)).map (Value.int .i64)) (0 + 1) (by simp [Nat.min_def] <;> omega) (by simp <;> omega) (HSrc.out _ HO1.out.2) (by simp <;> omega) (ints_oneCell _ _) w.heap.size w HO1.out.2 (Nat.le_refl _) ?_; intro w2 H2 hB2; have B2 := hide hB2; clear hB2))
          go_ret
          refine ⟨_, rfl, ?_, B2.out⟩
          have h2 := H2.out
          rw [HS.out] at h2
          rw [HT.out]
          exact blk_own h2 (by rw [tabZ_len zs n hz, HT.out]) (Nat.le_refl _) (by unfold maxLen; omega)
        · have HT := hide (show tabN zs n = m + 1 from by unfold tabN; rw [HG.out]; omega)
          have HS := hide (by have h := tab_splice zs n (m + 1) hz HG.out (by omega); rw [HT.out] at h; exact h)
          have hmx : (2 : Int) ≤ (m : Int) + 1 := by omega
          have hmx2 : max ((m : Int) + 1) 2 = (m : Int) + 1 := by omega
          go_wp2_with (first | (refine wpList_load_midG (by first | rfl | simp [Region.wanted, yielded]) 44 _ rfl b (off + m * 24) rfl (r.map (Value.int .i64)) _ HR.out Tryd.underlying44 rfl (by rw [List.length_map, HN.out]; exact info24) ?_) | (refine wpList_eqlG (by first | rfl | simp [Region.wanted, yielded]) 44 _ _ _ rfl (cellsI r) (cellsI (List.replicate 24 0)) rfl rfl guardIno false (HE2.out _) ?_) | (refine wpList_make_full _ rfl (.tmp 21) (.tmp 21) 27 rfl w.heap.size 44 i0 (.agg (cellsI (List.replicate 24 0))) 24 Tryd.underlying27 hi hz0 hz1 .i64 .i64 ((m : Int) + 1) ((m : Int) + 1) (m + 1) rfl rfl (by first | rfl | omega) (by first | rfl | omega) (by rw [hz2]; omega) (by unfold maxLen; omega) (Nat.le_refl _) ?_; intro w1 hown hgrow; rw [made_zero24, List.map_replicate] at hown; have HO1 := hide (And.intro (own_row hown) (show Below w.heap.size w w1 from (Below.refl _ _).grown hgrow (Nat.le_refl _) (fun k h => by cases h))); clear hown hgrow) | (refine wpList_copyS rfl (.tmp 23) (.tmp 26) 27 27 rfl 44 24 Tryd.underlying27 info24 _ w.heap.size (m + 1) (m + 1) (m + 1) _ rfl rfl (List.replicate ((m + 1) * 24) (.int .i64 0)) 44 HO1.out.1 ((zs.take ((m + 1) * 24)).map (Value.int .i64)) (m + 1) (by simp [Nat.min_def] <;> omega) (by simp <;> omega) (HSrc.out _ HO1.out.2) (by simp <;> omega) (ints_oneCell _ _) w.heap.size w HO1.out.2 (Nat.le_refl _) ?_; intro w2 H2 hB2; have B2 := hide hB2; clear hB2))
          go_ret
          refine ⟨_, rfl, ?_, B2.out⟩
          have h2 := H2.out
          rw [HS.out] at h2
          rw [HT.out]
          exact blk_own h2 (by rw [tabZ_len zs n hz, HT.out]) (Nat.le_refl _) (by unfold maxLen; omega)
end Go.Proofs.YtelcphnlkdffbaaDoor

namespace Go.Proofs.YtelcphnlkdffbaaDoor
set_option linter.unusedVariables false
set_option linter.unusedSimpArgs false
open Go.RowKit

/-- What tableFault has seen of the first k inodes. -/
def okTo (zs : List Int) (n k : Nat) : Bool := (decide (2 ≤ (n : Int)) && decide ((n : Int) ≤ 1001)) && (allRows zs k && (decide (k = 0) || zeroB (rowT zs 0)))
theorem okTo_zero (zs : List Int) (n : Nat) : okTo zs n 0 = (decide (2 ≤ (n : Int)) && decide ((n : Int) ≤ 1001)) := by
  unfold okTo allRows; simp
theorem okTo_step (zs : List Int) (n k : Nat) : ((okTo zs n k && rightL (rowT zs k)) && (decide (0 < k) || zeroB (rowT zs k))) = okTo zs n (k + 1) := by
  have ha : allRows zs (k + 1) = (allRows zs k && rightL (rowT zs k)) := by
    unfold allRows; rw [List.range_succ, List.all_append]; simp
  unfold okTo
  rw [ha]
  generalize (decide (2 ≤ (n : Int)) && decide ((n : Int) ≤ 1001)) = A
  rcases Nat.eq_zero_or_pos k with h | h
  · subst h
    have h0 : allRows zs 0 = true := rfl
    rw [h0]
    cases A <;> cases rightL (rowT zs 0) <;> cases zeroB (rowT zs 0) <;> rfl
  · have hk : decide (k = 0) = false := by simp; omega
    have hk1 : decide (k + 1 = 0) = false := by simp
    rw [hk, hk1, decide_eq_true h]
    cases A <;> cases allRows zs k <;> cases rightL (rowT zs k) <;> cases zeroB (rowT zs 0) <;> rfl
theorem row_range {w : World} {b : Nat} {r : List Int} {t : TypeId} (h : Blk w b (cellsI r) t) : w.rangeAt b 0 (r.map (Value.int .i64)) := by
  intro j v hv
  rw [h.cell (0 + j), Nat.zero_add]
  simp [cellsI] at hv ⊢
  exact hv
set_option maxRecDepth 100000 in
set_option maxHeartbeats 1000000 in
theorem tableFault_any (v : Value) (n : Nat) (zs : List Int) (code : Int) (w : World) (h : RdT w v n zs) :
    Calls Tryd.prog 28 #[v, .int .i64 code] w fun e w' => ∃ ev, e = .returned ev ∧ FaultIs w' w.heap.size (okTo zs n n) ev code ∧ Below w.heap.size w w' := by
  have hm := h.len
  have hz := h.1
  unfold maxLen at hm
  have hb0 : Below w.heap.size w (w.alloc (.cells #[.int .i64 code, .nilIface] 64)) := (Below.refl _ _).alloc (Nat.le_refl _) _
  have K0 := hide (And.intro (Ck.fresh w code 64) hb0)
  clear hb0
  rcases h.parts with ⟨a, cap, rfl, hlow⟩ | ⟨b, off, cap, rfl, hbw, hcell⟩
  all_goals
    clear h
    go_enter Tryd.func28, Tryd.ntmps28
    go_wp2_with (go_at_call 49; fail)
    refine (within_any w.heap.size (w.heap.size + 1) _ code n 2 1001 true _ K0.out.1 (by omega) (by simp)).mono ?_
    rintro e w1 ⟨rfl, hc1, ht1⟩
    rw [Bool.true_and] at hc1
    have K1 := hide (And.intro hc1 (show Below w.heap.size w w1 from K0.out.2.grown ht1.1 (by simp) (fun k e => by cases e; omega)))
    have hs1 : w.heap.size + 1 ≤ w1.heap.size := by have := ht1.1.size; simp at this; omega
    clear hc1 ht1 K0
    go_wp2
    go_loopw [15] (fun i wr => ∃ k : Nat, k ≤ n ∧ i = .int .i64 k ∧ Ck wr w.heap.size (w.heap.size + 1) code (okTo zs n k) ∧ Below w.heap.size w wr ∧ w.heap.size + 1 ≤ wr.heap.size) (fun i _ => n - (intOf i).toNat)
    case atStart => exact ⟨0, Nat.zero_le _, rfl, by rw [okTo_zero]; exact K1.out.1, K1.out.2, hs1⟩
    case round =>
      clear K1 hs1
      obtain ⟨k, hk, rfl, hck, hb1, hsr⟩ := hrel
      have HC := hide hck
      clear hck
      by_cases hlt : k < n
      · first
        | omega
        | (have hr := range_row (w := wr) (b := b) (off := off) hz hlt (fun i hi => (hb1.cell (p := ⟨b, off + i, none⟩) hbw).trans (hcell i hi))
           have hlen := rowT_len zs k n hz hlt
           have hst := okTo_step zs n k
           generalize hrw : rowT zs k = r at hr hlen hst
           have HR := hide hr
           have HN := hide hlen
           have HZ := hide (show (cellsI r).size = 24 from by rw [cellsI_size]; exact HN.out)
           have HK := hide (show Blk (wr.alloc (.cells (cellsI (List.replicate 24 0)) 44)) wr.heap.size (cellsI (List.replicate 24 0)) 44 ∧ Below wr.heap.size wr (wr.alloc (.cells (cellsI (List.replicate 24 0)) 44)) from ⟨Blk.new _ _ _, (Below.refl _ _).alloc (Nat.le_refl _) _⟩)
           have HB := hide hb1
           have HE2 := hide (fun w => eqInoL w r HN.out)
           clear hr hlen hb1 hcell hrw
           go_wp2_with (first | (refine wpList_load_mid rfl 44 _ rfl b (off + k * 24) rfl (r.map (Value.int .i64)) _ HR.out Tryd.underlying44 rfl (by rw [List.length_map, HN.out]; exact info24) ?_) | (refine wpList_store_new wr.heap.size wr rfl 44 _ _ rfl wr.heap.size (cellsI r) rfl rfl 44 (cellsI (List.replicate 24 0)) HK.out.1 (by rw [HZ.out]; exact info24) (by rw [HZ.out]; rfl) (cellsI_one _) HK.out.2 (Nat.le_refl _) ?_; intro w2 k2 b2; have K2 := hide k2; have B2 := hide b2; clear k2 b2) | (refine wpList_load_row rfl 44 _ rfl wr.heap.size rfl 44 (cellsI r) (0, 0) _ K2.out Tryd.underlying44 rfl (by rw [HZ.out]; exact info24) ?_) | (go_at_call 50; fail))
           refine (inodeFaultL r code _ HN.out).mono ?_
           rintro e w3 ⟨ev, rfl, hf3, b3⟩
           have hlt2 := K2.out.lt
           have hs23 := b3.size
           have C3 := hide ((HC.out.below B2.out).below b3)
           have K3 := hide (K2.out.below b3 K2.out.lt)
           have F3 := hide (hf3.mono (show w.heap.size + 1 ≤ w2.heap.size by omega))
           have B3 := hide ((HB.out.trans (B2.out.mono HB.out.size)).trans (b3.mono (show w.heap.size ≤ w2.heap.size by omega)))
           clear hf3 b3 HB B2 K2 HC
           go_wp2_with fail
           refine (inside_both w.heap.size (w.heap.size + 1) _ code _ _ ev _ C3.out F3.out (by omega) (by omega)).mono ?_
           rintro e w4 ⟨rfl, hc4, ht4⟩
           have K4 := hide hc4
           have B4 := hide (B3.out.grown ht4.1 B3.out.size (fun k e => by cases e; omega))
           have hs4 : w.heap.size + 1 ≤ w4.heap.size := by have := ht4.1.size; omega
           have I4 := hide (show Blk w4 wr.heap.size (cellsI r) 44 from (ht4.1.block _ K3.out.lt (by simp; omega)).trans K3.out)
           clear hc4 ht4 C3 F3 B3 K3
           by_cases hk0 : k = 0
           · subst hk0
             have HS := hide (show ((okTo zs n 0 && rightL r) && zeroB r) = okTo zs n (0 + 1) from by rw [← hst]; simp)
             clear hst
             go_wp2_with (first | (refine wpList_load_midG (by first | rfl | simp [Region.wanted, yielded]) 44 _ rfl wr.heap.size 0 rfl (r.map (Value.int .i64)) _ (row_range I4.out) Tryd.underlying44 rfl (by rw [List.length_map, HN.out]; exact info24) ?_) | (refine wpList_eqlG (by first | rfl | simp [Region.wanted, yielded]) 44 _ _ _ rfl (cellsI r) (cellsI (List.replicate 24 0)) rfl rfl guardIno (zeroB r) (HE2.out _) ?_) | (go_at_call 36; fail))
             refine (need_any w.heap.size (w.heap.size + 1) _ code _ (zeroB r) _ K4.out (by omega) hs4).mono ?_
             rintro e w5 ⟨rfl, hc5, ht5⟩
             have K5 := hide (show Ck w5 w.heap.size (w.heap.size + 1) code (okTo zs n (0 + 1)) ∧ Below w.heap.size w w5 from ⟨by rw [← HS.out]; exact hc5, B4.out.grown ht5.1 B4.out.size (fun k e => by cases e; omega)⟩)
             have hs5 : w.heap.size + 1 ≤ w5.heap.size := by have := ht5.1.size; omega
             clear hc5 ht5
             go_wp2
             go_roundw
             case rel => exact ⟨0 + 1, by omega, by go_num, K5.out.1, K5.out.2, hs5⟩
             case measure => simp [intOf]; omega
           · have HS := hide (show ((okTo zs n k && rightL r) && true) = okTo zs n (k + 1) from by rw [← hst]; simp [Nat.pos_of_ne_zero hk0])
             have hkp : (0 : Int) < (k : Int) := by omega
             clear hst
             go_wp2_with (first | (go_at_call 36; fail))
             refine (need_any w.heap.size (w.heap.size + 1) _ code _ true _ K4.out (by omega) hs4).mono ?_
             rintro e w5 ⟨rfl, hc5, ht5⟩
             have K5 := hide (show Ck w5 w.heap.size (w.heap.size + 1) code (okTo zs n (k + 1)) ∧ Below w.heap.size w w5 from ⟨by rw [← HS.out]; exact hc5, B4.out.grown ht5.1 B4.out.size (fun k e => by cases e; omega)⟩)
             have hs5 : w.heap.size + 1 ≤ w5.heap.size := by have := ht5.1.size; omega
             clear hc5 ht5
             go_wp2
             go_roundw
             case rel => exact ⟨k + 1, by omega, by go_num, K5.out.1, K5.out.2, hs5⟩
             case measure => simp [intOf]; omega)
      · have hkn : k = n := by omega
        subst hkn
        have HB := hide hb1
        obtain ⟨ev, c1, hf1⟩ := HC.out.fault
        have HF := hide (hf1.mono (show w.heap.size ≤ w.heap.size + 1 by omega))
        clear hb1 hf1
        go_wp2
        go_ret
        exact ⟨ev, rfl, HF.out, HB.out⟩
end Go.Proofs.YtelcphnlkdffbaaDoor

namespace Go.Proofs.YtelcphnlkdffbaaDoor
set_option linter.unusedVariables false
set_option linter.unusedSimpArgs false
open Go.RowKit

theorem okTo_full (zs : List Int) (n : Nat) (hz : zs.length = n * 24) : okTo (tabZ zs n) (tabN zs n) (tabN zs n) = okTab zs n := by
  rw [← ok_same zs n hz]
  have h2 : decide (tabN zs n = 0) = false := by
    have : 2 ≤ tabN zs n := by unfold tabN; omega
    simp; omega
  unfold okTo okPro
  rw [h2, Bool.false_or]
theorem flatT_len (Z : List Int) (T : Nat) (hZ : Z.length = T * 24) : ∀ m, m ≤ T → ((List.range m).map fun k => bytesL (rowT Z k)).flatten.length = m * 128 := by
  intro m
  induction m with
  | zero => intro _; rfl
  | succ m ih =>
    intro h
    rw [List.range_succ, List.map_append, List.flatten_append, List.length_append, ih (by omega)]
    simp [bytesL_len _ (rowT_len Z m T hZ (by omega))]
    omega
set_option maxRecDepth 100000 in
set_option maxHeartbeats 1000000 in
theorem implTab_any (v : Value) (n : Nat) (zs : List Int) (w : World) (h : RdT w v n zs) (hn : n ≤ 1048576) (hg : ErrT w) :
    Calls Tryd.prog 9 #[v] w fun e w' => ∃ v', e = .returned (.tuple #[v', .int .i64 (codeTab zs n)]) ∧ w'.ownsRow w.heap.size 5 1 v' (encTab zs n).length ((encTab zs n).map (Value.int .u8)) ∧ Below w.heap.size w w' := by
  obtain ⟨i0, hi, hz0, hz1', hz2⟩ := info_parts infoU8
  have HX := hide h
  have hz := h.1
  have HG := hide hg
  have HOk := hide (okTo_full zs n hz)
  clear h hg
  go_enter Tryd.func9, Tryd.ntmps9
  go_wp2_with (go_at_call 27; fail)
  refine (tableOf_any v n zs _ HX.out hn).mono ?_
  rintro e w1 ⟨v1, rfl, o1, b1⟩
  have R1 := hide (RdT.own o1)
  have B1 := hide b1
  clear o1 b1
  go_wp2_with (go_at_call 28; fail)
  refine (tableFault_any v1 (tabN zs n) (tabZ zs n) 7 _ R1.out).mono ?_
  rintro e w2 ⟨ev, rfl, hf, b2⟩
  rw [HOk.out] at hf
  have B2 := hide (B1.out.trans (b2.mono B1.out.size))
  have R2 := hide (R1.out.below b2)
  clear b2 R1 B1
  rcases hf with ⟨hr, rfl⟩ | ⟨hr, m, hm⟩
  · have HE := hide (enc_same zs n hz hr)
    have HO := hide hr
    have hbd : tabN zs n ≤ 1001 := by
      have h1 := ok_same zs n hz
      rw [hr] at h1
      unfold okPro at h1
      simp only [Bool.and_eq_true, decide_eq_true_eq] at h1
      omega
    have HAl := hide (show allRows (tabZ zs n) (tabN zs n) = true from by
      have h1 := ok_same zs n hz
      rw [hr] at h1
      unfold okPro at h1
      simp only [Bool.and_eq_true, decide_eq_true_eq] at h1
      exact h1.2.1)
    have h2 : 2 ≤ tabN zs n := by unfold tabN; omega
    generalize tabN zs n = T at hbd HAl h2 R2 HE
    generalize tabZ zs n = Z at HAl R2 HE
    obtain ⟨b, off, cap, rfl, hbw, hcell⟩ := (R2.out.parts).resolve_left (by rintro ⟨a, c, _, h⟩; omega)
    have hZ := R2.out.1
    clear hr R2
    go_wp2_with (first | (refine wpList_make_own _ rfl _ _ 24 rfl w2.heap.size 5 i0 (.int .u8 0) 1 Tryd.underlying24 hi hz0 hz1' .i64 .i64 _ (T * 128) rfl rfl (by go_num) (by rw [hz2]; omega) (by unfold maxLen; omega) (Nat.le_refl _) ?_; intro w3 o3 g3; have O3 := hide o3; have G3 := hide (show Below w2.heap.size w2 w3 from (Below.refl _ _).grown g3 (Nat.le_refl _) (fun k h => by cases h)); clear o3 g3))
    go_loopw [6, 23] (fun o i wr => ∃ k : Nat, k ≤ T ∧ i = .int .i64 k ∧ wr.ownsRow w2.heap.size 5 1 o (((List.range k).map fun k => bytesL (rowT Z k)).flatten).length ((((List.range k).map fun k => bytesL (rowT Z k)).flatten).map (Value.int .u8)) ∧ Below w2.heap.size w2 wr) (fun _ i _ => T - (intOf i).toNat)
    case atStart => exact ⟨0, by omega, rfl, by simpa using O3.out, G3.out⟩
    case round =>
      clear O3 G3
      obtain ⟨k, hk, rfl, hown, hb1⟩ := hrel
      have HOw := hide hown
      have HBw := hide hb1
      clear hown
      by_cases hlt : k < T
      · have HT := hide (show ((List.range (k + 1)).map fun k => bytesL (rowT Z k)).flatten = ((List.range k).map fun k => bytesL (rowT Z k)).flatten ++ bytesL (rowT Z k) from by
          rw [List.range_succ, List.map_append, List.flatten_append]; simp)
        have HLn := hide (flatT_len Z T hZ k hk)
        have HRt := hide (allRows_at HAl.out hlt)
        have hr := range_row (w := wr) (b := b) (off := off) hZ hlt (fun i hi => (hb1.cell (p := ⟨b, off + i, none⟩) hbw).trans (hcell i hi))
        have hlen := rowT_len Z k T hZ hlt
        generalize rowT Z k = r at hr hlen HT HRt
        have HR := hide hr
        have HN := hide hlen
        have HZ := hide (show (cellsI r).size = 24 from by rw [cellsI_size]; exact HN.out)
        have HK := hide (show Blk (wr.alloc (.cells (cellsI (List.replicate 24 0)) 44)) wr.heap.size (cellsI (List.replicate 24 0)) 44 ∧ Below wr.heap.size wr (wr.alloc (.cells (cellsI (List.replicate 24 0)) 44)) from ⟨Blk.new _ _ _, (Below.refl _ _).alloc (Nat.le_refl _) _⟩)
        have hcap6 : (((List.range k).map fun k => bytesL (rowT Z k)).flatten).length ≤ 128128 := by rw [HLn.out]; omega
        clear hr hlen hb1 hcell
        go_wp2_with (first | (refine wpList_load_mid rfl 44 _ rfl b (off + k * 24) rfl (r.map (Value.int .i64)) _ HR.out Tryd.underlying44 rfl (by rw [List.length_map, HN.out]; exact info24) ?_) | (refine wpList_store_new wr.heap.size wr rfl 44 _ _ rfl wr.heap.size (cellsI r) rfl rfl 44 (cellsI (List.replicate 24 0)) HK.out.1 (by rw [HZ.out]; exact info24) (by rw [HZ.out]; rfl) (cellsI_one _) HK.out.2 (Nat.le_refl _) ?_; intro w5 k5 b5; have K5 := hide k5; have O5 := hide (own_below HOw.out b5); have B5 := hide (HBw.out.trans (b5.mono HBw.out.size)); clear k5 b5) | (refine wpList_load_row rfl 44 _ rfl wr.heap.size rfl 44 (cellsI r) (0, 0) _ K5.out Tryd.underlying44 rfl (by rw [HZ.out]; exact info24) ?_) | (go_at_call 30; fail))
        refine (layInodeL r _ HN.out HRt.out).mono ?_
        rintro e w6 ⟨v6, rfl, o6, b6⟩
        have hs6 := b6.size
        have O6 := hide (own_below O5.out b6)
        have B6 := hide (B5.out.trans (b6.mono B5.out.size))
        obtain ⟨bd, off6, cp, rfl, hbw6, _, _, hcell6⟩ := (Rd.own (zs := bytesL r) o6).partsC (by rw [bytesL_len r HN.out]; omega)
        have hl6 := bytesL_len r HN.out
        have HX6 := hide (show ∀ (j : Nat) (u : Value), ((bytesL r).map (Value.int .u8))[j]? = some u → w6.cell? ((⟨bd, off6, none⟩ : Addr).add j) = some u from fun j u hj => by
          have hjl : j < (bytesL r).length := by
            rcases Nat.lt_or_ge j (bytesL r).length with h | h
            · exact h
            · rw [List.getElem?_eq_none (by simpa using h)] at hj; cases hj
          rw [Addr.add_mid, hcell6 j hjl]
          rw [List.getElem?_map, List.getElem?_eq_getElem hjl] at hj
          simp at hj
          rw [← hj]
          simp [List.getD, hjl])
        have HL6 := hide hl6
        rw [hl6]
        clear hcell6 o6 b6 O5 B5 K5 hl6
        go_wp2_with (at_builtin; refine append_fresh _ rfl (.tmp 27) (.tmp 29) 24 rfl w2.heap.size 5 i0 (.int .u8 0) 1 1 Tryd.underlying24 hi hz0 hz1' hz2 rfl (by decide) _ _ _ rfl O6.out ⟨bd, off6, none⟩ 128 cp ((bytesL r).map (Value.int .u8)) rfl (by rw [List.length_map, HL6.out]) HX6.out (ints_oneCell _ _) (by omega) (by unfold maxLen; omega) (by omega) (B6.out.size) ?_; intro v7 w7 o7 g7 f7)
        have HW := hide (show w7.ownsRow w2.heap.size 5 1 v7 (((List.range (k + 1)).map fun k => bytesL (rowT Z k)).flatten).length ((((List.range (k + 1)).map fun k => bytesL (rowT Z k)).flatten).map (Value.int .u8)) ∧ Below w2.heap.size w2 w7 from by
          refine ⟨?_, B6.out.grown g7 B6.out.size (fun r h => (O6.out.lt r h).1)⟩
          rw [HT.out, List.map_append, List.length_append, HL6.out]
          exact o7)
        clear o7 g7 f7
        go_roundw
        case rel => exact ⟨k + 1, by omega, by go_num, HW.out.1, HW.out.2⟩
        case measure => simp [intOf]; omega
      · have hkn : k = T := by omega
        subst hkn
        clear hb1
        go_wp2
        go_ret2
        have h1 := HOw.out
        rw [HE.out] at h1
        rw [show codeTab zs n = 0 from by unfold codeTab; rw [if_pos HO.out]]
        exact ⟨_, rfl, own_mono h1 B2.out.size, B2.out.trans (HBw.out.mono B2.out.size)⟩
  · obtain ⟨t', x', rfl⟩ := hm.iface
    have H4 := hide hm
    have HO := hide hr
    clear hr hm
    go_wp2_with (go_at_call 29; refine (codeOf_any m _ 7 _ _ H4.out (HG.out.below B2.out)).mono ?_; rintro e w3 ⟨rfl, hb3⟩)
    go_ret2
    rw [(codeTab_not HO.out).1]
    exact ⟨_, rfl, own_none HO.out, B2.out.trans (hb3.mono B2.out.size)⟩
end Go.Proofs.YtelcphnlkdffbaaDoor
