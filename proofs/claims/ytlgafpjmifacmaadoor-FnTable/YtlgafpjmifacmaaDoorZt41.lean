/- A table laid down and read back; the least free number: mathematics. -/
import Derived.Test.YtlgafpjmifacmaaDoorZt39
import Derived.Test.YtlgafpjmifacmaaDoorZt40
namespace Go.Proofs.YtlgafpjmifacmaaDoor
set_option linter.unusedVariables false
set_option linter.unusedSimpArgs false
open Go.RowKit

theorem unleT : ∀ (n c : Nat), unle (le n c) = c % 256 ^ n
  | 0, c => by simp [le, unle, Nat.mod_one]
  | n + 1, c => by
    rw [le, unle, unleT n (c / 256), Int.toNat_natCast, Nat.pow_succ, Nat.mul_comm (256 ^ n) 256]
    exact (Nat.mod_mul (x := c) (a := 256) (b := 256 ^ n)).symm
theorem words_at (pre ws suf : List Int) (i : Nat) (hi : i < ws.length) : ((pre ++ (bytesW ws ++ suf)).drop (pre.length + 4 * i)).take 4 = le 4 (ws.getD i 0).toNat := by
  rw [List.drop_append, List.drop_eq_nil_of_le (by omega), List.nil_append, Nat.add_sub_cancel_left]
  have e : ws = ws.take i ++ ([ws.getD i 0] ++ ws.drop (i + 1)) := by
    conv => lhs; rw [← List.take_append_drop i ws, List.drop_eq_getElem_cons hi]
    simp [hi]
  have hl : (bytesW (ws.take i)).length = 4 * i := by rw [bytesW_len]; simp; omega
  have e1 : bytesW [ws.getD i 0] = le 4 (ws.getD i 0).toNat := by simp [bytesW]
  conv => lhs; rw [e]
  rw [bytesW_append, bytesW_append, List.append_assoc, List.append_assoc, e1, List.drop_append, List.drop_eq_nil_of_le (by omega), List.nil_append, hl, Nat.sub_self, List.drop_zero, List.take_append, le_len, Nat.sub_self, List.take_zero, List.append_nil, List.take_of_length_le (by rw [le_len]; exact Nat.le_refl _)]
theorem rng {x : Int} {n : Nat} (h : 0 ≤ x ∧ x < n) : ((x.toNat % n : Nat) : Int) = x := by
  rw [Nat.mod_eq_of_lt (by omega)]; omega
theorem right_rng (k0 k1 k2 k3 k4 k5 k6 k7 k8 s : Int) (ds : List Int) (p q : Int) (hd : ds.length = 12) (h : rightIno k0 k1 k2 k3 k4 k5 k6 k7 k8 s ds p q = true) :
    (0 ≤ k0 ∧ k0 ≤ 3) ∧ (0 ≤ k1 ∧ k1 ≤ 1000) ∧ (0 ≤ k2 ∧ k2 ≤ 4095) ∧ (0 ≤ k3 ∧ k3 ≤ 65535) ∧ (0 ≤ k4 ∧ k4 ≤ 65535) ∧ (0 ≤ k5 ∧ k5 ≤ 1000) ∧ (0 ≤ k6 ∧ k6 ≤ 1099511627776) ∧ (0 ≤ k7 ∧ k7 ≤ 1099511627776) ∧ (0 ≤ k8 ∧ k8 ≤ 1099511627776) := by
  unfold rightIno at h
  rw [Bool.or_eq_true] at h
  rcases h with h | h
  · rw [zeroB_iff] at h
    have hh : ∀ x ∈ [k0, k1, k2, k3, k4, k5, k6, k7, k8], x = 0 := fun x hx => h x (by unfold inoI; exact List.mem_append_left _ hx)
    simp only [List.mem_cons, List.not_mem_nil, or_false, forall_eq_or_imp, forall_eq] at hh
    obtain ⟨rfl, rfl, rfl, rfl, rfl, rfl, rfl, rfl, rfl⟩ := hh
    decide
  · rw [Bool.and_eq_true] at h
    have h1 := h.1
    unfold fieldsB wi at h1
    simp only [Bool.and_eq_true, decide_eq_true_eq] at h1
    obtain ⟨⟨⟨⟨⟨⟨⟨⟨a0, a1⟩, a2⟩, a3⟩, a4⟩, a5⟩, a6⟩, a7⟩, a8⟩ := h1
    have h5 : 0 ≤ k5 ∧ k5 ≤ 1000 := by
      unfold parB at a5
      split at a5
      · unfold wi at a5
        simp only [Bool.and_eq_true, decide_eq_true_eq] at a5
        omega
      · have : k5 = 0 := by simpa using a5
        omega
    omega
theorem w64 {x : Int} (h : 0 ≤ x ∧ x ≤ 1099511627776) : wrap64 ((x.toNat % 256 ^ 8 : Nat) : Int) = x := by
  have e : ((x.toNat % 256 ^ 8 : Nat) : Int) = x := by
    rw [Nat.mod_eq_of_lt (by omega)]; omega
  rw [e]
  unfold wrap64
  omega
theorem bytesIno_bd (a0 a1 a2 a3 a4 a5 a6 a7 a8 : Nat) (s : Int) (ds : List Int) (p q : Int) : ∀ z ∈ bytesIno a0 a1 a2 a3 a4 a5 a6 a7 a8 s ds p q, 0 ≤ z ∧ z < 256 := by
  intro z h
  unfold bytesIno at h
  simp only [List.mem_append] at h
  rcases h with (((((((((((h | h) | h) | h) | h) | h) | h) | h) | h) | h) | h) | h) | h
  all_goals first | exact le_bd _ _ z h | exact rep_bd _ z h | exact bytesR_bd _ _ _ _ z h

set_option maxRecDepth 10000 in
theorem ino_at (k0 k1 k2 k3 k4 k5 k6 k7 k8 s : Int) (ds : List Int) (p q : Int) (hd : ds.length = 12) (h : rightIno k0 k1 k2 k3 k4 k5 k6 k7 k8 s ds p q = true) :
    InoAt (bytesIno k0.toNat k1.toNat k2.toNat k3.toNat k4.toNat k5.toNat k6.toNat k7.toNat k8.toNat s ds p q) k0 k1 k2 k3 k4 k5 k6 k7 k8 s ds p q := by
  obtain ⟨a0, a1, a2, a3, a4, a5, a6, a7, a8⟩ := right_rng _ _ _ _ _ _ _ _ _ _ _ _ _ hd h
  obtain ⟨hs, hp⟩ := right_bd hd (rightIno_root hd h)
  refine ⟨?_, ?_, ?_, ?_, ?_, ?_, ?_, ?_, ?_, ?_, ?_⟩
  · show k0 = ((unle (le 1 k0.toNat) : Nat) : Int); rw [unleT]; exact (rng ⟨a0.1, by omega⟩).symm
  · show k1 = ((unle (le 2 k1.toNat) : Nat) : Int); rw [unleT]; exact (rng ⟨a1.1, by omega⟩).symm
  · show k2 = ((unle (le 2 k2.toNat) : Nat) : Int); rw [unleT]; exact (rng ⟨a2.1, by omega⟩).symm
  · show k3 = ((unle (le 2 k3.toNat) : Nat) : Int); rw [unleT]; exact (rng ⟨a3.1, by omega⟩).symm
  · show k4 = ((unle (le 2 k4.toNat) : Nat) : Int); rw [unleT]; exact (rng ⟨a4.1, by omega⟩).symm
  · show k5 = ((unle (le 4 k5.toNat) : Nat) : Int); rw [unleT]; exact (rng ⟨a5.1, by omega⟩).symm
  · show k6 = wrap64 ((unle (le 8 k6.toNat) : Nat) : Int); rw [unleT]; exact (w64 a6).symm
  · show k7 = wrap64 ((unle (le 8 k7.toNat) : Nat) : Int); rw [unleT]; exact (w64 a7).symm
  · show k8 = wrap64 ((unle (le 8 k8.toNat) : Nat) : Int); rw [unleT]; exact (w64 a8).symm
  · show s = wrap64 ((unle (le 8 s.toNat) : Nat) : Int); rw [unleT]; exact (w64 ⟨hs.1, by omega⟩).symm
  · have e : bytesIno k0.toNat k1.toNat k2.toNat k3.toNat k4.toNat k5.toNat k6.toNat k7.toNat k8.toNat s ds p q = (le 1 k0.toNat ++ List.replicate 1 0 ++ le 2 k1.toNat ++ le 2 k2.toNat ++ le 2 k3.toNat ++ le 2 k4.toNat ++ List.replicate 2 0 ++ le 4 k5.toNat ++ le 8 k6.toNat ++ le 8 k7.toNat ++ le 8 k8.toNat ++ le 8 s.toNat) ++ (bytesW (ds ++ [p, q]) ++ List.replicate 24 0) := by
      unfold bytesIno bytesR; simp only [List.append_assoc]
    have hl : (le 1 k0.toNat ++ List.replicate 1 0 ++ le 2 k1.toNat ++ le 2 k2.toNat ++ le 2 k3.toNat ++ le 2 k4.toNat ++ List.replicate 2 0 ++ le 4 k5.toNat ++ le 8 k6.toNat ++ le 8 k7.toNat ++ le 8 k8.toNat ++ le 8 s.toNat).length = 40 + 8 := by
      simp only [List.length_append, le_len, List.length_replicate]
    rw [e]
    generalize (le 1 k0.toNat ++ List.replicate 1 0 ++ le 2 k1.toNat ++ le 2 k2.toNat ++ le 2 k3.toNat ++ le 2 k4.toNat ++ List.replicate 2 0 ++ le 4 k5.toNat ++ le 8 k6.toNat ++ le 8 k7.toNat ++ le 8 k8.toNat ++ le 8 s.toNat) = pre at hl
    have h14 : (ds ++ [p, q]).length = 14 := by simp [hd]
    generalize ds ++ [p, q] = ws at hp h14
    unfold wordsFrom
    apply List.ext_getElem
    · simp [h14]
    · intro i h1 h2
      rw [List.getElem_map, List.getElem_range, ← hl, words_at pre ws _ i h1, unleT]
      have hm := hp ws[i] (List.getElem_mem h1)
      rw [List.getD_eq_getElem?_getD, List.getElem?_eq_getElem h1, Option.getD_some]
      exact (rng ⟨hm.1, by omega⟩).symm
theorem dec_bytes (r : List Int) (h : r.length = 24) (hr : rightL r = true) : okDI (bytesL r) = true ∧ decI (bytesL r) = r := by
  obtain ⟨hp, hd⟩ := parts_row r h
  unfold rightL at hr
  unfold bytesL
  generalize r.getD 0 0 = k0 at *
  generalize r.getD 1 0 = k1 at *
  generalize r.getD 2 0 = k2 at *
  generalize r.getD 3 0 = k3 at *
  generalize r.getD 4 0 = k4 at *
  generalize r.getD 5 0 = k5 at *
  generalize r.getD 6 0 = k6 at *
  generalize r.getD 7 0 = k7 at *
  generalize r.getD 8 0 = k8 at *
  generalize r.getD 9 0 = s at *
  generalize r.getD 22 0 = p at *
  generalize r.getD 23 0 = q at *
  generalize (r.drop 10).take 12 = ds at *
  have hlen := bytesIno_len k0.toNat k1.toNat k2.toNat k3.toNat k4.toNat k5.toNat k6.toNat k7.toNat k8.toNat s ds p q hd
  obtain ⟨e1, e2⟩ := ino_agree _ k0 k1 k2 k3 k4 k5 k6 k7 k8 s ds p q (bytesIno_bd k0.toNat k1.toNat k2.toNat k3.toNat k4.toNat k5.toNat k6.toNat k7.toNat k8.toNat s ds p q) hlen hd (ino_at k0 k1 k2 k3 k4 k5 k6 k7 k8 s ds p q hd hr)
  have e3 := e2 hr
  have ho : okDI (bytesIno k0.toNat k1.toNat k2.toNat k3.toNat k4.toNat k5.toNat k6.toNat k7.toNat k8.toNat s ds p q) = true := by
    unfold okDI
    rw [decide_eq_true hlen, Bool.true_and, ← e1, hr, gaps_bytes _ _ _ _ _ _ _ _ _ _ _ _ _ hd]
    rfl
  refine ⟨ho, ?_⟩
  unfold decI
  rw [if_pos ho, ← e3]
  exact hp.symm

theorem piece_flat (f : Nat → List Int) (c : Nat) : ∀ m, (∀ i, i < m → (f i).length = c) → ∀ k, k < m → ((((List.range m).map f).flatten).drop (k * c)).take c = f k ∧ ((List.range m).map f).flatten.length = m * c
  | 0, _, k, hk => by omega
  | m + 1, hf, k, hk => by
    have hl : ((List.range m).map f).flatten.length = m * c := by
      rcases Nat.eq_zero_or_pos m with rfl | hp
      · simp
      · exact (piece_flat f c m (fun i hi => hf i (by omega)) 0 hp).2
    have e : ((List.range (m + 1)).map f).flatten = ((List.range m).map f).flatten ++ f m := by simp [List.range_succ]
    rw [e]
    refine ⟨?_, by rw [List.length_append, hl, hf m (by omega), Nat.add_mul, Nat.one_mul]⟩
    by_cases hkm : k = m
    · subst hkm
      rw [List.drop_append, List.drop_eq_nil_of_le (by omega), List.nil_append, hl, Nat.sub_self, List.drop_zero, List.take_of_length_le (by rw [hf k (by omega)]; exact Nat.le_refl _)]
    · have h1 := (piece_flat f c m (fun i hi => hf i (by omega)) k (by omega)).1
      have hk1 : (k + 1) * c ≤ m * c := Nat.mul_le_mul_right _ (by omega)
      rw [Nat.add_mul, Nat.one_mul] at hk1
      rw [List.drop_append_of_le_length (by omega), List.take_append_of_le_length (by rw [List.length_drop]; omega)]
      exact h1
theorem rows_flat (zs : List Int) : ∀ n, n * 24 ≤ zs.length → ((List.range n).map (rowT zs)).flatten = zs.take (n * 24)
  | 0, _ => by simp
  | n + 1, h => by
    have e : ((List.range (n + 1)).map (rowT zs)).flatten = ((List.range n).map (rowT zs)).flatten ++ rowT zs n := by simp [List.range_succ]
    rw [e, rows_flat zs n (by omega)]
    unfold rowT
    rw [Nat.add_mul, Nat.one_mul, List.take_add]
theorem trimK_pos (zs : List Int) : ∀ n m, trimK zs n = m + 1 → zeroB (rowT zs m) = false
  | 0, m, h => by simp [trimK] at h
  | n + 1, m, h => by
    cases hz : zeroB (rowT zs n) with
    | true => rw [trimK_step hz] at h; exact trimK_pos zs n m h
    | false =>
      rw [trimK_stop hz] at h
      obtain rfl : n = m := by omega
      exact hz
theorem tabN_self (zs : List Int) (n : Nat) (hz : zs.length = n * 24) : tabN (tabZ zs n) (tabN zs n) = tabN zs n := by
  have h1 : trimK (tabZ zs n) (tabN zs n) ≤ tabN zs n := trimK_le _ _
  by_cases h2 : 2 ≤ trimK zs n
  · have e : tabN zs n = trimK zs n := by unfold tabN; omega
    obtain ⟨m, hm⟩ : ∃ m, tabN zs n = m + 1 := ⟨tabN zs n - 1, by omega⟩
    have hnz := trimK_pos zs n m (by omega)
    have hmn : m < n := by have := trimK_le zs n; omega
    have hr : rowT (tabZ zs n) m = rowT zs m := by rw [tab_row zs n m hz (by omega), rowO, if_pos hmn]
    have : trimK (tabZ zs n) (tabN zs n) = tabN zs n := by
      rw [hm]; exact trimK_stop (by rw [hr]; exact hnz)
    unfold tabN at this ⊢
    rw [this]
    omega
  · have e : tabN zs n = 2 := by unfold tabN; omega
    rw [e] at h1 ⊢
    unfold tabN
    omega
theorem okTab_le {zs : List Int} {n : Nat} (hz : zs.length = n * 24) (h : okTab zs n = true) : 2 ≤ tabN zs n ∧ tabN zs n ≤ 1001 ∧ tabN zs n = lastT zs n + 1 ∧ allRows zs n = true := by
  unfold okTab at h
  simp only [Bool.and_eq_true, decide_eq_true_eq] at h
  have ht := trim_last zs n h.1 (by omega)
  unfold tabN lastT at *
  exact ⟨by omega, by omega, ht, h.1⟩
/-- What is read back of the bytes of a table. -/
theorem table_back (zs : List Int) (n : Nat) (hz : zs.length = n * 24) (h : okTab zs n = true) : codeDT (encTab zs n) = 0 ∧ cntDT (encTab zs n) = tabN zs n ∧ decDT (encTab zs n) = tabZ zs n := by
  obtain ⟨hN2, hN, hT, hall⟩ := okTab_le hz h
  have hlen := enc_num zs n hz h
  have hnum : numDT (encTab zs n) = tabN zs n := by unfold numDT pcs; omega
  have hpc : ∀ k, k < tabN zs n → pieceB (encTab zs n) 128 k = bytesL (rowO zs n k) := by
    intro k hk
    unfold pieceB encTab
    rw [if_pos h, ← hT]
    exact (piece_flat (fun k => bytesL (rowO zs n k)) 128 (tabN zs n) (fun i _ => bytesL_len _ (rowO_len zs n i hz)) k hk).1
  have hdec : ∀ k, k < tabN zs n → okDI (pieceB (encTab zs n) 128 k) = true ∧ decI (pieceB (encTab zs n) 128 k) = rowO zs n k := by
    intro k hk
    rw [hpc k hk]
    exact dec_bytes _ (rowO_len zs n k hz) (rowO_right hall k)
  have hrows : rowsDT (encTab zs n) = tabZ zs n := by
    unfold rowsDT readZ
    rw [hnum]
    have : (List.range (tabN zs n)).map (fun k => decI (pieceB (encTab zs n) 128 k)) = (List.range (tabN zs n)).map (rowT (tabZ zs n)) := by
      apply List.map_congr_left
      intro k hk
      rw [(hdec k (List.mem_range.1 hk)).2, tab_row zs n k hz (List.mem_range.1 hk)]
    rw [this, rows_flat _ _ (by rw [tabZ_len zs n hz]; exact Nat.le_refl _), List.take_of_length_le (by rw [tabZ_len zs n hz]; exact Nat.le_refl _)]
  have hok : okDT (encTab zs n) = true := by
    unfold okDT
    rw [hrows, hnum, tabN_self zs n hz, okTo_full zs n hz, h, decide_eq_true (show (encTab zs n).length ≤ 128128 by omega), decide_eq_true rfl]
    have : readOk (encTab zs n) (List.range (tabN zs n)) = true := by
      unfold readOk
      rw [List.all_eq_true]
      intro k hk
      unfold codeDI
      rw [if_pos (hdec k (List.mem_range.1 hk)).1]
      rfl
    rw [this]
    rfl
  obtain ⟨y1, y2, y3⟩ := okDT_yes hok
  exact ⟨y1, y2.trans hnum, y3.trans hrows⟩
theorem table_again (zs : List Int) (n : Nat) (hz : zs.length = n * 24) (h : okTab zs n = true) : codeTab (tabZ zs n) (tabN zs n) = 0 ∧ encTab (tabZ zs n) (tabN zs n) = encTab zs n := by
  obtain ⟨hN2, hN, hT, hall⟩ := okTab_le hz h
  have hl := tabZ_len zs n hz
  have hok : okTab (tabZ zs n) (tabN zs n) = true := by rw [← okTo_tab _ _ hl hN2 hN, okTo_full zs n hz]; exact h
  refine ⟨by unfold codeTab; rw [if_pos hok], ?_⟩
  rw [← enc_same _ _ hl hok, ← enc_same zs n hz h, tabN_self zs n hz]
  congr 1
  apply List.map_congr_left
  intro k hk
  have hk' := List.mem_range.1 hk
  rw [tab_row (tabZ zs n) (tabN zs n) k hl (by rw [tabN_self zs n hz]; exact hk'), rowO, if_pos hk']
theorem table_row (zs : List Int) (n k : Nat) (hz : zs.length = n * 24) (hk : k < tabN zs n) : (k < n → rowT (tabZ zs n) k = rowT zs k) ∧ (n ≤ k → rowT (tabZ zs n) k = List.replicate 24 0) := by
  refine ⟨fun h => ?_, fun h => ?_⟩
  · rw [tab_row zs n k hz hk, rowO, if_pos h]
  · rw [tab_row zs n k hz hk, rowO, if_neg (by omega)]

theorem low_spec (zs : List Int) (n : Nat) : ∀ m k, 1 ≤ k → (lowG zs n m k = 0 ∧ ∀ j, k ≤ j → j < k + m → ¬ (n ≤ j ∨ zs.getD (j * 24) 0 = 0)) ∨ (k ≤ lowG zs n m k ∧ lowG zs n m k < k + m ∧ (n ≤ lowG zs n m k ∨ zs.getD (lowG zs n m k * 24) 0 = 0) ∧ ∀ j, k ≤ j → j < lowG zs n m k → ¬ (n ≤ j ∨ zs.getD (j * 24) 0 = 0))
  | 0, k, _ => .inl ⟨rfl, fun j h1 h2 => by omega⟩
  | m + 1, k, hk => by
    by_cases h : n ≤ k ∨ zs.getD (k * 24) 0 = 0
    · have e : lowG zs n (m + 1) k = k := by rw [lowG, if_pos h]
      rw [e]
      exact .inr ⟨Nat.le_refl _, by omega, h, fun j h1 h2 => by omega⟩
    · have e : lowG zs n (m + 1) k = lowG zs n m (k + 1) := by rw [lowG, if_neg h]
      rw [e]
      rcases low_spec zs n m (k + 1) (by omega) with ⟨h1, h2⟩ | ⟨h1, h2, h3, h4⟩
      · refine .inl ⟨h1, fun j hj1 hj2 => ?_⟩
        by_cases hjk : j = k
        · subst hjk; exact h
        · exact h2 j (by omega) (by omega)
      · refine .inr ⟨by omega, by omega, h3, fun j hj1 hj2 => ?_⟩
        by_cases hjk : j = k
        · subst hjk; exact h
        · exact h4 j (by omega) hj2
theorem low_facts (zs : List Int) (n : Nat) : (∀ j, 2 ≤ j → j < n → j < lowG zs n 999 2 → zs.getD (j * 24) 0 ≠ 0) ∧ (lowG zs n 999 2 ≠ 0 → 2 ≤ lowG zs n 999 2 ∧ lowG zs n 999 2 ≤ 1000 ∧ (lowG zs n 999 2 < n → zs.getD (lowG zs n 999 2 * 24) 0 = 0)) ∧ (lowG zs n 999 2 = 0 → 1000 < n) := by
  rcases low_spec zs n 999 2 (by omega) with ⟨h1, h2⟩ | ⟨h1, h2, h3, h4⟩
  · refine ⟨fun j h3 h4 h5 => by omega, fun h => absurd h1 h, fun _ => ?_⟩
    have := h2 1000 (by omega) (by omega)
    omega
  · refine ⟨fun j h5 h6 h7 h8 => h4 j h5 h7 (.inr h8), fun _ => ⟨h1, by omega, fun h => ?_⟩, fun h => by omega⟩
    rcases h3 with h3 | h3
    · omega
    · exact h3
end Go.Proofs.YtlgafpjmifacmaaDoor
