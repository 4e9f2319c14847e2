/- Inodes as lists of twenty-four integers: what is right, what is laid down; the trimmed table and the table that the model tells are one. -/
import Derived.Test.YtlgafpjmifacmaaDoorZt31
import Derived.Test.YtlgafpjmifacmaaDoorZt28
namespace Go.Proofs.YtlgafpjmifacmaaDoor
set_option linter.unusedVariables false
set_option linter.unusedSimpArgs false
open Go.RowKit

theorem RdT.get {w : World} {a : Option Addr} {cap n : Nat} {zs : List Int} (h : RdT w (.slice a n cap) n zs) (hn : 0 < n) : ∃ b off, a = some ⟨b, off, none⟩ ∧ b < w.heap.size ∧ ∀ i, i < n * 24 → w.cell? ⟨b, off + i, none⟩ = some (.int .i64 (zs.getD i 0)) := by
  obtain ⟨_, a', c', e, h2, _⟩ := h
  injection e with e1 e2 e3
  subst e1
  exact h2 hn
def rightL (r : List Int) : Bool := rightIno (r.getD 0 0) (r.getD 1 0) (r.getD 2 0) (r.getD 3 0) (r.getD 4 0) (r.getD 5 0) (r.getD 6 0) (r.getD 7 0) (r.getD 8 0) (r.getD 9 0) ((r.drop 10).take 12) (r.getD 22 0) (r.getD 23 0)
def bytesL (r : List Int) : List Int := bytesIno (r.getD 0 0).toNat (r.getD 1 0).toNat (r.getD 2 0).toNat (r.getD 3 0).toNat (r.getD 4 0).toNat (r.getD 5 0).toNat (r.getD 6 0).toNat (r.getD 7 0).toNat (r.getD 8 0).toNat (r.getD 9 0) ((r.drop 10).take 12) (r.getD 22 0) (r.getD 23 0)
theorem parts_row (r : List Int) (h : r.length = 24) : r = inoI [r.getD 0 0, r.getD 1 0, r.getD 2 0, r.getD 3 0, r.getD 4 0, r.getD 5 0, r.getD 6 0, r.getD 7 0, r.getD 8 0] (r.getD 9 0) ((r.drop 10).take 12) (r.getD 22 0) (r.getD 23 0) ∧ ((r.drop 10).take 12).length = 12 := by
  match r, h with
  | [_, _, _, _, _, _, _, _, _, _, _, _, _, _, _, _, _, _, _, _, _, _, _, _], _ => exact ⟨rfl, rfl⟩
theorem bytesL_len (r : List Int) (h : r.length = 24) : (bytesL r).length = 128 := bytesIno_len _ _ _ _ _ _ _ _ _ _ _ _ _ (parts_row r h).2
theorem l02InodeL (r : List Int) (w : World) (h : r.length = 24) : Calls Tryd.prog 23 #[.agg (cellsI r)] w fun e w' => e = .returned (.bool (rightL r)) ∧ Below w.heap.size w w' := by
  have := l02Inode_any (r.getD 0 0) (r.getD 1 0) (r.getD 2 0) (r.getD 3 0) (r.getD 4 0) (r.getD 5 0) (r.getD 6 0) (r.getD 7 0) (r.getD 8 0) (r.getD 9 0) ((r.drop 10).take 12) (r.getD 22 0) (r.getD 23 0) w (parts_row r h).2
  rw [← (parts_row r h).1] at this
  exact this
theorem inodeFaultL (r : List Int) (code : Int) (w : World) (h : r.length = 24) : Calls Tryd.prog 50 #[.agg (cellsI r), .int .i64 code] w fun e w' => ∃ ev, e = .returned ev ∧ FaultIs w' w.heap.size (rightL r) ev code ∧ Below w.heap.size w w' := by
  have := inodeFault_any (r.getD 0 0) (r.getD 1 0) (r.getD 2 0) (r.getD 3 0) (r.getD 4 0) (r.getD 5 0) (r.getD 6 0) (r.getD 7 0) (r.getD 8 0) (r.getD 9 0) ((r.drop 10).take 12) (r.getD 22 0) (r.getD 23 0) code w (parts_row r h).2
  rw [← (parts_row r h).1] at this
  exact this
theorem eqInoL (w : World) (r : List Int) (h : r.length = 24) : (Op.equalIn 10000 44 (.agg (cellsI r)) (.agg (cellsI (List.replicate 24 0)))).run Tryd.prog w = .ok (zeroB r) w := by
  have := eqIno_zero w 9995 (r.getD 0 0) (r.getD 1 0) (r.getD 2 0) (r.getD 3 0) (r.getD 4 0) (r.getD 5 0) (r.getD 6 0) (r.getD 7 0) (r.getD 8 0) (r.getD 9 0) ((r.drop 10).take 12) (r.getD 22 0) (r.getD 23 0) (parts_row r h).2
  rw [← (parts_row r h).1] at this
  exact this
theorem layInode_r (k0 k1 k2 k3 k4 k5 k6 k7 k8 s : Int) (ds : List Int) (p q : Int) (w : World) (hd : ds.length = 12) (hr : rightIno k0 k1 k2 k3 k4 k5 k6 k7 k8 s ds p q = true) : Calls Tryd.prog 52 #[.agg (cellsI (inoI [k0, k1, k2, k3, k4, k5, k6, k7, k8] s ds p q))] w fun e w' => ∃ v', e = .returned v' ∧ w'.ownsRow w.heap.size 5 1 v' 128 ((bytesIno k0.toNat k1.toNat k2.toNat k3.toNat k4.toNat k5.toNat k6.toNat k7.toNat k8.toNat s ds p q).map (Value.int .u8)) ∧ Below w.heap.size w w' := by
  refine openI hd hr fun a0 a1 a2 a3 a4 a5 a6 a7 a8 d0 d1 d2 d3 d4 d5 d6 d7 d8 d9 d10 d11 hk hds hbd => ?_
  obtain ⟨rfl, rfl, rfl, rfl, rfl, rfl, rfl, rfl, rfl⟩ := hk
  subst hds
  obtain ⟨h0, h1, h2, h3, h4, h5, h6, h7, h8, hs, hp⟩ := hbd
  exact layInode_any a0 a1 a2 a3 a4 a5 a6 a7 a8 s [d0, d1, d2, d3, d4, d5, d6, d7, d8, d9, d10, d11] p q w rfl h0 h1 h2 h3 h4 h5 h6 h7 h8 hs hp
theorem layInodeL (r : List Int) (w : World) (h : r.length = 24) (hr : rightL r = true) : Calls Tryd.prog 52 #[.agg (cellsI r)] w fun e w' => ∃ v', e = .returned v' ∧ w'.ownsRow w.heap.size 5 1 v' 128 ((bytesL r).map (Value.int .u8)) ∧ Below w.heap.size w w' := by
  have := layInode_r (r.getD 0 0) (r.getD 1 0) (r.getD 2 0) (r.getD 3 0) (r.getD 4 0) (r.getD 5 0) (r.getD 6 0) (r.getD 7 0) (r.getD 8 0) (r.getD 9 0) ((r.drop 10).take 12) (r.getD 22 0) (r.getD 23 0) w (parts_row r h).2 hr
  rw [← (parts_row r h).1] at this
  exact this
theorem inodeBytes_r (k0 k1 k2 k3 k4 k5 k6 k7 k8 s : Int) (ds : List Int) (p q : Int) (w : World) (hd : ds.length = 12) (hr : rightIno k0 k1 k2 k3 k4 k5 k6 k7 k8 s ds p q = true) : Calls Tryd.prog 47 #[.agg (cellsI (inoI [k0, k1, k2, k3, k4, k5, k6, k7, k8] s ds p q))] w fun e w' => ∃ v', e = .returned v' ∧ w'.ownsRow w.heap.size 5 1 v' 128 ((bytesIno k0.toNat k1.toNat k2.toNat k3.toNat k4.toNat k5.toNat k6.toNat k7.toNat k8.toNat s ds p q).map (Value.int .u8)) ∧ Below w.heap.size w w' := by
  refine openI hd hr fun a0 a1 a2 a3 a4 a5 a6 a7 a8 d0 d1 d2 d3 d4 d5 d6 d7 d8 d9 d10 d11 hk hds hbd => ?_
  obtain ⟨rfl, rfl, rfl, rfl, rfl, rfl, rfl, rfl, rfl⟩ := hk
  subst hds
  obtain ⟨h0, h1, h2, h3, h4, h5, h6, h7, h8, hs, hp⟩ := hbd
  exact inodeBytes_any a0 a1 a2 a3 a4 a5 a6 a7 a8 s d0 d1 d2 d3 d4 d5 d6 d7 d8 d9 d10 d11 p q w h0 h1 h2 h3 h4 h5 h6 h7 h8 hs hp
theorem inodeBytesL (r : List Int) (w : World) (h : r.length = 24) (hr : rightL r = true) : Calls Tryd.prog 47 #[.agg (cellsI r)] w fun e w' => ∃ v', e = .returned v' ∧ w'.ownsRow w.heap.size 5 1 v' 128 ((bytesL r).map (Value.int .u8)) ∧ Below w.heap.size w w' := by
  have := inodeBytes_r (r.getD 0 0) (r.getD 1 0) (r.getD 2 0) (r.getD 3 0) (r.getD 4 0) (r.getD 5 0) (r.getD 6 0) (r.getD 7 0) (r.getD 8 0) (r.getD 9 0) ((r.drop 10).take 12) (r.getD 22 0) (r.getD 23 0) w (parts_row r h).2 hr
  rw [← (parts_row r h).1] at this
  exact this

theorem right_kind (r : List Int) (h : r.length = 24) (hr : rightL r = true) : zeroB r = (r.getD 0 0 == 0) := by
  have hp := (parts_row r h).1
  cases hz : zeroB r with
  | true =>
    rw [zeroB_iff] at hz
    have : r.getD 0 0 = 0 := hz _ (by simp [List.getD, h])
    rw [this]; rfl
  | false =>
    unfold rightL rightIno at hr
    rw [← hp, hz, Bool.false_or, Bool.and_eq_true] at hr
    have hf := hr.1
    unfold fieldsB at hf
    simp only [Bool.and_eq_true] at hf
    have := wi_true hf.1.1.1.1.1.1.1.1
    have hne : r.getD 0 0 ≠ 0 := by omega
    exact (beq_eq_false_iff_ne.2 hne).symm
theorem zero_right (r : List Int) (h : r.length = 24) (hz : zeroB r = true) : rightL r = true := by
  unfold rightL rightIno
  rw [← (parts_row r h).1, hz, Bool.true_or]
theorem zero_row (r : List Int) (h : r.length = 24) (hz : zeroB r = true) : r = List.replicate 24 0 := by
  rw [zeroB_iff] at hz
  rw [← h]
  exact List.eq_replicate_iff.2 ⟨rfl, hz⟩

/-- The greatest number below m of one that isn't free; 1 if there is none. -/
def lastK (zs : List Int) : Nat → Nat
  | 0 => 1
  | m + 1 => if zs.getD (m * 24) 0 = 0 then lastK zs m else m
def lastT (zs : List Int) (n : Nat) : Nat := max (lastK zs n) 1
/-- How many inodes are left without those at the end that are all zero. -/
def trimK (zs : List Int) : Nat → Nat
  | 0 => 0
  | m + 1 => if zeroB (rowT zs m) = true then trimK zs m else m + 1
def allRows (zs : List Int) (n : Nat) : Bool := (List.range n).all fun k => rightL (rowT zs k)
/-- Inode k of a list that is lacking behind n. -/
def rowO (zs : List Int) (n k : Nat) : List Int := if k < n then rowT zs k else List.replicate 24 0
def okTab (zs : List Int) (n : Nat) : Bool := allRows zs n && (zeroB (rowO zs n 0) && decide (lastT zs n ≤ 1000))
def encTab (zs : List Int) (n : Nat) : List Int := if okTab zs n = true then ((List.range (lastT zs n + 1)).map fun k => bytesL (rowO zs n k)).flatten else []
def codeTab (zs : List Int) (n : Nat) : Int := if okTab zs n = true then 0 else 7
theorem rowO_len (zs : List Int) (n k : Nat) (hz : zs.length = n * 24) : (rowO zs n k).length = 24 := by
  unfold rowO
  split
  · exact rowT_len zs k n hz ‹_›
  · simp
theorem allRows_at {zs : List Int} {n k : Nat} (h : allRows zs n = true) (hk : k < n) : rightL (rowT zs k) = true := by
  unfold allRows at h
  rw [List.all_eq_true] at h
  exact h k (by simpa using hk)
theorem zrep : rightL (List.replicate 24 0) = true := zero_right _ (by simp) ((zeroB_iff _).2 (fun x hx => (List.mem_replicate.1 hx).2))
theorem rowO_right {zs : List Int} {n : Nat} (h : allRows zs n = true) (k : Nat) : rightL (rowO zs n k) = true := by
  unfold rowO
  split
  · exact allRows_at h ‹_›
  · exact zrep
theorem lastK_lt (zs : List Int) : ∀ n, lastK zs n < max n 2
  | 0 => by simp [lastK]
  | m + 1 => by
    have := lastK_lt zs m
    unfold lastK
    split <;> omega
theorem trimK_le (zs : List Int) : ∀ n, trimK zs n ≤ n
  | 0 => Nat.le_refl _
  | m + 1 => by
    have := trimK_le zs m
    unfold trimK
    split <;> omega
theorem trimK_zero (zs : List Int) : ∀ n k, trimK zs n ≤ k → k < n → zeroB (rowT zs k) = true
  | 0, k, _, h => by omega
  | m + 1, k, h1, h2 => by
    unfold trimK at h1
    split at h1
    · rename_i hz
      by_cases e : k = m
      · subst e; exact hz
      · exact trimK_zero zs m k h1 (by omega)
    · omega
theorem trim_last (zs : List Int) : ∀ n, allRows zs n = true → zs.length ≥ n * 24 → max (trimK zs n) 2 = max (lastK zs n) 1 + 1
  | 0, _, _ => by simp [trimK, lastK]
  | m + 1, h, hl => by
    have hm : allRows zs m = true := by
      unfold allRows at h ⊢
      rw [List.all_eq_true] at h ⊢
      exact fun x hx => h x (by simp at hx ⊢; omega)
    have hr := allRows_at h (Nat.lt_succ_self m)
    have hlen : (rowT zs m).length = 24 := by simp [rowT]; omega
    have hk := right_kind _ hlen hr
    have e0 := rowT_get zs m 0 (by omega)
    rw [Nat.add_zero] at e0
    rw [e0] at hk
    have ih := trim_last zs m hm (by omega)
    unfold trimK lastK
    rw [hk]
    by_cases hz : zs.getD (m * 24) 0 = 0
    · rw [if_pos (by simpa using hz), if_pos hz]; exact ih
    · rw [if_neg (by simpa using hz), if_neg hz]; omega
/-- The trimmed table's integers, and how many inodes it has. -/
def tabN (zs : List Int) (n : Nat) : Nat := max (trimK zs n) 2
def tabZ (zs : List Int) (n : Nat) : List Int := zs.take (trimK zs n * 24) ++ List.replicate ((tabN zs n - trimK zs n) * 24) 0
theorem tabZ_len (zs : List Int) (n : Nat) (hz : zs.length = n * 24) : (tabZ zs n).length = tabN zs n * 24 := by
  have := trimK_le zs n
  unfold tabZ tabN
  simp
  omega
theorem tab_row (zs : List Int) (n k : Nat) (hz : zs.length = n * 24) (hk : k < tabN zs n) : rowT (tabZ zs n) k = rowO zs n k := by
  have h1 := trimK_le zs n
  have hl : (zs.take (trimK zs n * 24)).length = trimK zs n * 24 := by simp; omega
  by_cases hlt : k < trimK zs n
  · have : rowT (tabZ zs n) k = rowT zs k := by
      unfold rowT tabZ
      apply List.ext_getElem?
      intro j
      by_cases hj : j < 24
      · rw [List.getElem?_take, if_pos hj, List.getElem?_take, if_pos hj, List.getElem?_drop, List.getElem?_drop, List.getElem?_append_left (by omega), List.getElem?_take, if_pos (by omega)]
      · rw [List.getElem?_take, if_neg hj, List.getElem?_take, if_neg hj]
    rw [this, rowO, if_pos (by omega)]
  · have hzr : rowT (tabZ zs n) k = List.replicate 24 0 := by
      have hlen := rowT_len (tabZ zs n) k (tabN zs n) (tabZ_len zs n hz) hk
      apply List.ext_getElem?
      intro j
      by_cases hj : j < 24
      · unfold rowT tabZ
        rw [List.getElem?_take, if_pos hj, List.getElem?_drop, List.getElem?_append_right (by omega), List.getElem?_replicate, List.getElem?_replicate, if_pos (by rw [hl]; omega), if_pos hj]
      · rw [List.getElem?_eq_none (by omega), List.getElem?_eq_none (by simp; omega)]
    rw [hzr, rowO]
    split
    · exact (zero_row _ (rowT_len zs k n hz ‹_›) (trimK_zero zs n k (by omega) ‹_›)).symm
    · rfl
def okPro (zs : List Int) (n : Nat) : Bool := (decide (2 ≤ (tabN zs n : Int)) && decide ((tabN zs n : Int) ≤ 1001)) && (allRows (tabZ zs n) (tabN zs n) && zeroB (rowT (tabZ zs n) 0))
theorem ok_same (zs : List Int) (n : Nat) (hz : zs.length = n * 24) : okPro zs n = okTab zs n := by
  have h2 : 2 ≤ tabN zs n := by unfold tabN; omega
  have hr0 := tab_row zs n 0 hz (by omega)
  have ha : allRows (tabZ zs n) (tabN zs n) = allRows zs n := by
    cases hc : allRows zs n with
    | true =>
      unfold allRows
      rw [List.all_eq_true]
      intro k hk
      rw [tab_row zs n k hz (by simpa using hk)]
      exact rowO_right hc k
    | false =>
      cases hd : allRows (tabZ zs n) (tabN zs n) with
      | false => rfl
      | true =>
        exfalso
        have : allRows zs n = true := by
          unfold allRows
          rw [List.all_eq_true]
          intro k hk
          have hkn : k < n := by simpa using hk
          by_cases hlt : k < trimK zs n
          · have hkt : k < tabN zs n := by unfold tabN; omega
            have := allRows_at hd hkt
            rw [tab_row zs n k hz hkt, rowO, if_pos hkn] at this
            exact this
          · exact zero_right _ (rowT_len zs k n hz hkn) (trimK_zero zs n k (by omega) hkn)
        rw [hc] at this
        cases this
  unfold okPro okTab
  rw [ha, hr0]
  cases hc : allRows zs n with
  | false => simp
  | true =>
    have ht : tabN zs n = lastT zs n + 1 := trim_last zs n hc (by omega)
    have hd : (decide (2 ≤ (tabN zs n : Int)) && decide ((tabN zs n : Int) ≤ 1001)) = decide (lastT zs n ≤ 1000) := by
      rw [Bool.eq_iff_iff]
      simp only [Bool.and_eq_true, decide_eq_true_eq]
      omega
    rw [hd, Bool.true_and, Bool.true_and, Bool.and_comm]
theorem enc_same (zs : List Int) (n : Nat) (hz : zs.length = n * 24) (h : okTab zs n = true) : ((List.range (tabN zs n)).map fun k => bytesL (rowT (tabZ zs n) k)).flatten = encTab zs n := by
  have hc : allRows zs n = true := by unfold okTab at h; rw [Bool.and_eq_true] at h; exact h.1
  have ht : tabN zs n = lastT zs n + 1 := trim_last zs n hc (by omega)
  unfold encTab
  rw [if_pos h, ← ht]
  congr 1
  apply List.map_congr_left
  intro k hk
  rw [tab_row zs n k hz (by simpa using hk)]
theorem flat_len (zs : List Int) (n : Nat) (hz : zs.length = n * 24) : ∀ m, ((List.range m).map fun k => bytesL (rowO zs n k)).flatten.length = m * 128 := by
  intro m
  induction m with
  | zero => rfl
  | succ m ih =>
    rw [List.range_succ, List.map_append, List.flatten_append, List.length_append, ih]
    simp [bytesL_len _ (rowO_len zs n m hz)]
    omega
theorem encTab_len (zs : List Int) (n : Nat) (hz : zs.length = n * 24) : (encTab zs n).length ≤ 128128 := by
  unfold encTab
  split
  · rename_i h
    have h1 : lastT zs n ≤ 1000 := by unfold okTab at h; simp only [Bool.and_eq_true, decide_eq_true_eq] at h; exact h.2.2
    have : ∀ m, ((List.range m).map fun k => bytesL (rowO zs n k)).flatten.length = m * 128 := by
      intro m
      induction m with
      | zero => rfl
      | succ m ih =>
        rw [List.range_succ, List.map_append, List.flatten_append, List.length_append, ih]
        simp [bytesL_len _ (rowO_len zs n m hz)]
        omega
    rw [this]
    omega
  · simp
end Go.Proofs.YtlgafpjmifacmaaDoor
